/- Contracts of package octet: Put and what it calls. -/
import Derived.Test.YtpghkdmljanncaaKit
namespace Go.Proofs.Ytpghkdmljanncaa
open Go.ChangeShapes Go.WideShapes Go.ChangeAt Go.RowKit Go.PlainAid
set_option linter.unusedSimpArgs false
set_option linter.unusedVariables false

def okSize (z : Int) : Prop := z = 1 ∨ z = 2 ∨ z = 4 ∨ z = 8
def fitsP (n z : Int) : Prop := z = 8 ∨ (z = 1 ∧ -128 ≤ n ∧ n ≤ 255) ∨ (z = 2 ∧ -32768 ≤ n ∧ n ≤ 65535) ∨ (z = 4 ∧ -2147483648 ≤ n ∧ n ≤ 4294967295)
/-- the bytes of n in the size z -/
def putL (n z : Int) : List Int :=
  if z = 1 then [n % 256] else if z = 2 then [n / 256 % 256, n % 256] else if z = 4 then [n / 16777216 % 256, n / 65536 % 256, n / 256 % 256, n % 256]
  else [n / 72057594037927936 % 256, n / 281474976710656 % 256, n / 1099511627776 % 256, n / 4294967296 % 256, n / 16777216 % 256, n / 65536 % 256, n / 256 % 256, n % 256]

theorem conv_new (w : World) (C : Array Value) (z : Nat) (xs : List Int) (hl : xs.length = z) (h : ∀ i, i < z → C[i]? = some (.int .u8 (xs.getD i 0))) (c : Nat) (T : TypeId) :
    (convert 74 9 (.slice (some ⟨w.heap.size, 0, none⟩) z c)).run Try.prog (w.alloc (.cells C T)) = .ok (.string (strOfNums xs)) (w.alloc (.cells C T)) := by
  refine run_convert_bytes_arg (P := Try.prog) (w.alloc (.cells C T)) 74 5 Try.underlying74 Try.underlying5 w.heap.size 0 z c xs hl ?_ 9 Try.underlying9
  intro i hi
  rw [Nat.zero_add]
  have := h i hi
  simp only [World.cell?, MapKept.heap_alloc]
  exact this

theorem size_ok (z : Int) (h : okSize z) (w : World) :
    Calls Try.prog 108 #[.int .i64 z] w fun e w' => e = .returned (.bool true) ∧ w = w' := by
  rcases h with rfl | rfl | rfl | rfl
  all_goals
    go_enter Try.func108, Try.ntmps108
    go_wp2
    go_ret
    exact ⟨rfl, rfl⟩
theorem size_no (z : Int) (h : ¬ okSize z) (w : World) :
    Calls Try.prog 108 #[.int .i64 z] w fun e w' => e = .returned (.bool false) ∧ w = w' := by
  unfold okSize at h
  have e1 := beqF (show z ≠ 1 by omega)
  have e2 := beqF (show z ≠ 2 by omega)
  have e4 := beqF (show z ≠ 4 by omega)
  have e8 := beqF (show z ≠ 8 by omega)
  go_enter Try.func108, Try.ntmps108
  go_wp2
  go_ret
  exact ⟨rfl, rfl⟩
theorem fits_ok (n z : Int) (h : fitsP n z) (w : World) :
    Calls Try.prog 109 #[.int .i64 n, .int .i64 z] w fun e w' => e = .returned (.bool true) ∧ w = w' := by
  rcases h with rfl | ⟨rfl, h1, h2⟩ | ⟨rfl, h1, h2⟩ | ⟨rfl, h1, h2⟩
  all_goals
    go_enter Try.func109, Try.ntmps109
    go_wp2
    go_ret
    exact ⟨rfl, rfl⟩
theorem fits_no (n z : Int) (hz : okSize z) (h : ¬ fitsP n z) (w : World) :
    Calls Try.prog 109 #[.int .i64 n, .int .i64 z] w fun e w' => e = .returned (.bool false) ∧ w = w' := by
  unfold fitsP at h
  rcases hz with rfl | rfl | rfl | rfl
  · rcases (by omega : n < -128 ∨ (-128 ≤ n ∧ 255 < n)) with h1 | ⟨h1, h1'⟩
    all_goals
      clear h
      go_enter Try.func109, Try.ntmps109
      go_wp2
      go_ret
      exact ⟨ret_bool (by first | rfl | (simp; omega)), rfl⟩
  · rcases (by omega : n < -32768 ∨ (-32768 ≤ n ∧ 65535 < n)) with h1 | ⟨h1, h1'⟩
    all_goals
      clear h
      go_enter Try.func109, Try.ntmps109
      go_wp2
      go_ret
      exact ⟨ret_bool (by first | rfl | (simp; omega)), rfl⟩
  · rcases (by omega : n < -2147483648 ∨ (-2147483648 ≤ n ∧ 4294967295 < n)) with h1 | ⟨h1, h1'⟩
    all_goals
      clear h
      go_enter Try.func109, Try.ntmps109
      go_wp2
      go_ret
      exact ⟨ret_bool (by first | rfl | (simp; omega)), rfl⟩
  · omega

theorem put_bad (n z : Int) (h : ¬ okSize z) (w : World) :
    Calls Try.prog 100 #[.int .i64 n, .int .i64 z] w fun e w' => e = .returned (.tuple #[.string (strOfNums []), .int .i64 1]) ∧ w = w' := by
  go_enter Try.func100, Try.ntmps100
  go_wp2_with (go_at_call 108; refine (size_no z h _).mono ?_; rintro e w' ⟨rfl, rfl⟩)
  go_returns
  exact ⟨rfl, rfl⟩
theorem put_big (n z : Int) (hz : okSize z) (h : ¬ fitsP n z) (w : World) :
    Calls Try.prog 100 #[.int .i64 n, .int .i64 z] w fun e w' => e = .returned (.tuple #[.string (strOfNums []), .int .i64 8]) ∧ w = w' := by
  go_enter Try.func100, Try.ntmps100
  go_wp2_with (first | (go_at_call 108; refine (size_ok z hz _).mono ?_; rintro e w' ⟨rfl, rfl⟩) | (go_at_call 109; refine (fits_no n z hz h _).mono ?_; rintro e w' ⟨rfl, rfl⟩))
  go_returns
  exact ⟨rfl, rfl⟩
theorem put_ok (n z : Int) (hz : okSize z) (h : fitsP n z) (w : World) :
    Calls Try.prog 100 #[.int .i64 n, .int .i64 z] w fun e w' => e = .returned (.tuple #[.string (strOfNums (putL n z)), .int .i64 0]) ∧ Below w.heap.size w w' := by
  rcases hz with rfl | rfl | rfl | rfl
  · have hz : okSize 1 := by simp [okSize]
    have kc := conv_new w #[.int .u8 (n % 256), .int .u8 0, .int .u8 0, .int .u8 0, .int .u8 0, .int .u8 0, .int .u8 0, .int .u8 0] 1 [n % 256] rfl (by intro i hi; rcases i with _ | i <;> first | rfl | omega) 8 112
    go_enter Try.func100, Try.ntmps100
    go_wp2_with (first | (go_at_call 108; refine (size_ok _ hz _).mono ?_; rintro e w' ⟨rfl, rfl⟩) | (go_at_call 109; refine (fits_ok n _ h _).mono ?_; rintro e w' ⟨rfl, rfl⟩))
    go_rounds 2
    go_returns
    exact ⟨rfl, by go_grown⟩
  · have hz : okSize 2 := by simp [okSize]
    have kc := conv_new w #[.int .u8 (n / 256 % 256), .int .u8 (n % 256), .int .u8 0, .int .u8 0, .int .u8 0, .int .u8 0, .int .u8 0, .int .u8 0] 2 [n / 256 % 256, n % 256] rfl (by intro i hi; rcases i with _ | _ | i <;> first | rfl | omega) 8 112
    go_enter Try.func100, Try.ntmps100
    go_wp2_with (first | (go_at_call 108; refine (size_ok _ hz _).mono ?_; rintro e w' ⟨rfl, rfl⟩) | (go_at_call 109; refine (fits_ok n _ h _).mono ?_; rintro e w' ⟨rfl, rfl⟩))
    go_rounds 3
    go_returns
    exact ⟨rfl, by go_grown⟩
  · have hz : okSize 4 := by simp [okSize]
    have kc := conv_new w #[.int .u8 (n / 16777216 % 256), .int .u8 (n / 65536 % 256), .int .u8 (n / 256 % 256), .int .u8 (n % 256), .int .u8 0, .int .u8 0, .int .u8 0, .int .u8 0] 4 [n / 16777216 % 256, n / 65536 % 256, n / 256 % 256, n % 256] rfl (by intro i hi; rcases i with _ | _ | _ | _ | i <;> first | rfl | omega) 8 112
    go_enter Try.func100, Try.ntmps100
    go_wp2_with (first | (go_at_call 108; refine (size_ok _ hz _).mono ?_; rintro e w' ⟨rfl, rfl⟩) | (go_at_call 109; refine (fits_ok n _ h _).mono ?_; rintro e w' ⟨rfl, rfl⟩))
    go_rounds 5
    go_returns
    exact ⟨rfl, by go_grown⟩
  · have hz : okSize 8 := by simp [okSize]
    have kc := conv_new w #[.int .u8 (n / 72057594037927936 % 256), .int .u8 (n / 281474976710656 % 256), .int .u8 (n / 1099511627776 % 256), .int .u8 (n / 4294967296 % 256), .int .u8 (n / 16777216 % 256), .int .u8 (n / 65536 % 256), .int .u8 (n / 256 % 256), .int .u8 (n % 256)] 8 [n / 72057594037927936 % 256, n / 281474976710656 % 256, n / 1099511627776 % 256, n / 4294967296 % 256, n / 16777216 % 256, n / 65536 % 256, n / 256 % 256, n % 256] rfl (by intro i hi; rcases i with _ | _ | _ | _ | _ | _ | _ | _ | i <;> first | rfl | omega) 8 112
    go_enter Try.func100, Try.ntmps100
    go_wp2_with (first | (go_at_call 108; refine (size_ok _ hz _).mono ?_; rintro e w' ⟨rfl, rfl⟩) | (go_at_call 109; refine (fits_ok n _ h _).mono ?_; rintro e w' ⟨rfl, rfl⟩))
    go_rounds 9
    go_returns
    exact ⟨rfl, by go_grown⟩

end Go.Proofs.Ytpghkdmljanncaa
