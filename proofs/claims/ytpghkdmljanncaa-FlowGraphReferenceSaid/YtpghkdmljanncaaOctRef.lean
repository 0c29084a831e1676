/- Contracts of the reference of layer 2: Put. -/
import Derived.Test.YtpghkdmljanncaaOct
namespace Go.Proofs.Ytpghkdmljanncaa
open Go.ChangeShapes Go.WideShapes Go.ChangeAt Go.RowKit Go.PlainAid
set_option linter.unusedSimpArgs false
set_option linter.unusedVariables false

theorem i64_mask8 (n : Int) : bits .and .i64 n 255 = n % 256 := by
  have h : (BitVec.ofInt 64 255).toNat = 2 ^ 8 - 1 := by decide
  have key : (BitVec.ofInt 64 n &&& BitVec.ofInt 64 255).toNat = (n % ((2 ^ 64 : Nat) : Int)).toNat % 2 ^ 8 := by
    rw [BitVec.toNat_and, BitVec.toNat_ofInt, h, Nat.and_two_pow_sub_one_eq_mod]
  show IntKind.i64.wrap ((BitVec.ofInt 64 n &&& BitVec.ofInt 64 255).toNat : Nat) = n % 256
  rw [key, IntKind.wrap_i64]
  omega

theorem rsize_ok (z : Int) (h : okSize z) (w : World) :
    Calls Try.prog 111 #[.int .i64 z] w fun e w' => e = .returned (.bool true) ∧ w = w' := by
  rcases h with rfl | rfl | rfl | rfl
  all_goals
    go_enter Try.func111, Try.ntmps111
    go_wp2
    go_ret
    exact ⟨rfl, rfl⟩
theorem rsize_no (z : Int) (h : ¬ okSize z) (w : World) :
    Calls Try.prog 111 #[.int .i64 z] w fun e w' => e = .returned (.bool false) ∧ w = w' := by
  unfold okSize at h
  have e1 := beqF (show z ≠ 1 by omega)
  have e2 := beqF (show z ≠ 2 by omega)
  have e4 := beqF (show z ≠ 4 by omega)
  have e8 := beqF (show z ≠ 8 by omega)
  go_enter Try.func111, Try.ntmps111
  go_wp2
  go_ret
  exact ⟨rfl, rfl⟩

theorem rput_bad (n z : Int) (h : ¬ okSize z) (w : World) :
    Calls Try.prog 102 #[.int .i64 n, .int .i64 z] w fun e w' => e = .returned (.tuple #[.string (strOfNums []), .int .i64 1]) ∧ w = w' := by
  go_enter Try.func102, Try.ntmps102
  go_wp2_with (go_at_call 111; refine (rsize_no z h _).mono ?_; rintro e w' ⟨rfl, rfl⟩)
  go_returns
  exact ⟨rfl, rfl⟩
theorem rput_big (n z : Int) (hz : okSize z) (h : ¬ fitsP n z) (w : World) :
    Calls Try.prog 102 #[.int .i64 n, .int .i64 z] w fun e w' => e = .returned (.tuple #[.string (strOfNums []), .int .i64 8]) ∧ w = w' := by
  have hz' := Lib.hid hz
  unfold fitsP at h
  rcases hz with rfl | rfl | rfl | rfl
  · rcases (by omega : n < -128 ∨ (-128 ≤ n ∧ 255 < n)) with h1 | ⟨h1, h1'⟩
    all_goals
      clear h
      go_enter Try.func102, Try.ntmps102
      go_wp2_with (go_at_call 111; refine (rsize_ok _ hz'.out _).mono ?_; rintro e w' ⟨rfl, rfl⟩)
      go_returns
      exact ⟨rfl, rfl⟩
  · rcases (by omega : n < -32768 ∨ (-32768 ≤ n ∧ 65535 < n)) with h1 | ⟨h1, h1'⟩
    all_goals
      clear h
      go_enter Try.func102, Try.ntmps102
      go_wp2_with (go_at_call 111; refine (rsize_ok _ hz'.out _).mono ?_; rintro e w' ⟨rfl, rfl⟩)
      go_returns
      exact ⟨rfl, rfl⟩
  · rcases (by omega : n < -2147483648 ∨ (-2147483648 ≤ n ∧ 4294967295 < n)) with h1 | ⟨h1, h1'⟩
    all_goals
      clear h
      go_enter Try.func102, Try.ntmps102
      go_wp2_with (go_at_call 111; refine (rsize_ok _ hz'.out _).mono ?_; rintro e w' ⟨rfl, rfl⟩)
      go_returns
      exact ⟨rfl, rfl⟩
  · omega
set_option maxRecDepth 100000 in
theorem rput_ok (n z : Int) (hz : okSize z) (h : fitsP n z) (w : World) :
    Calls Try.prog 102 #[.int .i64 n, .int .i64 z] w fun e w' => e = .returned (.tuple #[.string (strOfNums (putL n z)), .int .i64 0]) ∧ Below w.heap.size w w' := by
  have hz' := Lib.hid hz
  have hm8 := i64_mask8
  unfold fitsP at h
  rcases hz with rfl | rfl | rfl | rfl
  · have h1 : -128 ≤ n ∧ n ≤ 255 := by omega
    clear h
    have hmk : ∀ w, (Instr.makeSlice 74 (.int .i64 1) (.int .i64 1)).run Try.prog w = .ok (.slice (some ⟨w.heap.size, 0, none⟩) 1 1) (w.alloc (.cells #[.int .u8 0] 5)) := fun _ => by kernel_rfl
    have kc := conv_new w #[.int .u8 (n % 256)] 1 [n % 256] rfl (by intro i hi; rcases i with _ | i <;> first | rfl | omega) 1 5
    go_enter Try.func102, Try.ntmps102
    go_wp2_with (go_at_call 111; refine (rsize_ok _ hz'.out _).mono ?_; rintro e w' ⟨rfl, rfl⟩)
    go_rounds 2
    go_returns
    exact ⟨ret_si (congrArg strOfNums (by simp only [putL]; simp; try omega)) rfl, by go_grown⟩
  · have h1 : -32768 ≤ n ∧ n ≤ 65535 := by omega
    clear h
    have hmk : ∀ w, (Instr.makeSlice 74 (.int .i64 2) (.int .i64 2)).run Try.prog w = .ok (.slice (some ⟨w.heap.size, 0, none⟩) 2 2) (w.alloc (.cells #[.int .u8 0, .int .u8 0] 5)) := fun _ => by kernel_rfl
    have kc := conv_new w #[.int .u8 (n / 256 % 256), .int .u8 (n % 256)] 2 [n / 256 % 256, n % 256] rfl (by intro i hi; rcases i with _ | _ | i <;> first | rfl | omega) 2 5
    go_enter Try.func102, Try.ntmps102
    go_wp2_with (go_at_call 111; refine (rsize_ok _ hz'.out _).mono ?_; rintro e w' ⟨rfl, rfl⟩)
    go_rounds 3
    go_returns
    exact ⟨ret_si (congrArg strOfNums (by simp only [putL]; simp; try omega)) rfl, by go_grown⟩
  · have h1 : -2147483648 ≤ n ∧ n ≤ 4294967295 := by omega
    clear h
    have hmk : ∀ w, (Instr.makeSlice 74 (.int .i64 4) (.int .i64 4)).run Try.prog w = .ok (.slice (some ⟨w.heap.size, 0, none⟩) 4 4) (w.alloc (.cells #[.int .u8 0, .int .u8 0, .int .u8 0, .int .u8 0] 5)) := fun _ => by kernel_rfl
    have kc := conv_new w #[.int .u8 (n / 256 / 256 / 256 % 256), .int .u8 (n / 256 / 256 % 256), .int .u8 (n / 256 % 256), .int .u8 (n % 256)] 4 [n / 256 / 256 / 256 % 256, n / 256 / 256 % 256, n / 256 % 256, n % 256] rfl (by intro i hi; rcases i with _ | _ | _ | _ | i <;> first | rfl | omega) 4 5
    go_enter Try.func102, Try.ntmps102
    go_wp2_with (go_at_call 111; refine (rsize_ok _ hz'.out _).mono ?_; rintro e w' ⟨rfl, rfl⟩)
    go_rounds 5
    go_returns
    exact ⟨ret_si (congrArg strOfNums (by simp only [putL]; simp; try omega)) rfl, by go_grown⟩
  · clear h
    have hmk : ∀ w, (Instr.makeSlice 74 (.int .i64 8) (.int .i64 8)).run Try.prog w = .ok (.slice (some ⟨w.heap.size, 0, none⟩) 8 8) (w.alloc (.cells #[.int .u8 0, .int .u8 0, .int .u8 0, .int .u8 0, .int .u8 0, .int .u8 0, .int .u8 0, .int .u8 0] 5)) := fun _ => by kernel_rfl
    have kc := conv_new w #[.int .u8 (n / 256 / 256 / 256 / 256 / 256 / 256 / 256 % 256), .int .u8 (n / 256 / 256 / 256 / 256 / 256 / 256 % 256), .int .u8 (n / 256 / 256 / 256 / 256 / 256 % 256), .int .u8 (n / 256 / 256 / 256 / 256 % 256), .int .u8 (n / 256 / 256 / 256 % 256), .int .u8 (n / 256 / 256 % 256), .int .u8 (n / 256 % 256), .int .u8 (n % 256)] 8 [n / 256 / 256 / 256 / 256 / 256 / 256 / 256 % 256, n / 256 / 256 / 256 / 256 / 256 / 256 % 256, n / 256 / 256 / 256 / 256 / 256 % 256, n / 256 / 256 / 256 / 256 % 256, n / 256 / 256 / 256 % 256, n / 256 / 256 % 256, n / 256 % 256, n % 256] rfl (by intro i hi; rcases i with _ | _ | _ | _ | _ | _ | _ | _ | i <;> first | rfl | omega) 8 5
    go_enter Try.func102, Try.ntmps102
    go_wp2_with (go_at_call 111; refine (rsize_ok _ hz'.out _).mono ?_; rintro e w' ⟨rfl, rfl⟩)
    go_rounds 9
    go_returns
    exact ⟨ret_si (congrArg strOfNums (by simp only [putL]; simp; try omega)) rfl, by go_grown⟩

end Go.Proofs.Ytpghkdmljanncaa
