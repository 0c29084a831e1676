/- Layer 42: compute (written by gen/bocomp.py). -/
import Derived.Test.YtgiglbjkijlchaaRf
import Derived.Test.YtgiglbjkijlchaaNumTwo
namespace Go.Proofs.Ytgiglbjkijlchaa
open Go.ChangeShapes Go.WideShapes Go.ChangeAt Go.RowKit Go.PlainAid
set_option linter.unusedSimpArgs false
set_option linter.unusedVariables false

def fromK (op : Int) : Int := if (27 ≤ op ∧ op ≤ 33) ∨ op = 35 then 2 else 1
def toK (op : Int) : Int := if (27 ≤ op ∧ op ≤ 32) ∨ op = 34 then 2 else 1
def isUn (op : Int) : Prop := op = 20 ∨ op = 32 ∨ op = 34 ∨ op = 35
instance (op : Int) : Decidable (isUn op) := by unfold isUn; infer_instance
def errS (x : Int) (r : Rs) : Rs := if x = 0 then r else failS x r
def compS (op : Int) (r : Rs) : Rs :=
  if isUn op then pushS (toK op) (compV op (topV r.ss).2 0) (errS (compE op 0) (popS (fromK op) r))
  else pushS (toK op) (compV op (topV (popS (fromK op) r).ss).2 (topV r.ss).2) (errS (compE op (topV r.ss).2) (popS (fromK op) (popS (fromK op) r)))
theorem errS_ss (x : Int) (r : Rs) : (errS x r).ss = r.ss := by unfold errS; split; rfl; exact failS_ss x r
theorem StRet.then_ {w0 W W1 w' : World} {b : Nat} {h : Hd8} {r' : Rs} {lA : Option Addr} {lc : Nat} {sv sv1 : Value} {e : Ending} (hk : Kept W W1 b sv) (hl : Lies W sv sv1) (H : StRet w0 W1 b h r' lA lc sv1 e w') : StRet w0 W b h r' lA lc sv e w' := by
  obtain ⟨he, sv', h1, h2, h3⟩ := H
  exact ⟨he, sv', h1, hk.trans hl h2, hl.trans hk.size h3⟩
set_option maxRecDepth 100000 in
set_option maxHeartbeats 1000000 in
theorem comp_15 {w0 W : World} {b : Nat} {h : Hd8} {r : Rs} {lA : Option Addr} {lc : Nat} {sv : Value} (H : RunSt w0 W b h r lA lc sv) (hl : r.ss.length ≤ 900000) :
    Calls Try.prog 19 #[.pointer (some ⟨b, 0, none⟩), .int .i64 15] W (StRet w0 W b h (compS 15 r) lA lc sv) := by
  have HP := Lib.hid (pop_any 1 H (by omega))
  have hs1 := popS_ss 1 r
  have HS := Lib.hid (show compS 15 r = pushS 1 (compV 15 (topV (popS 1 r).ss).2 (topV r.ss).2) (errS (compE 15 (topV r.ss).2) (popS 1 (popS 1 r))) from rfl)
  obtain ⟨r1, hr1⟩ : ∃ r1, popS 1 r = r1 := ⟨_, rfl⟩
  obtain ⟨x, hx⟩ : ∃ x, (topV r.ss).2 = x := ⟨_, rfl⟩
  rw [hr1, hx] at HP HS
  rw [hr1] at hs1
  have hs2 := popS_ss 1 r1
  clear hx hr1 H
  obtain ⟨r2, hr2e⟩ : ∃ r2, popS 1 r1 = r2 := ⟨_, rfl⟩
  obtain ⟨y, hy⟩ : ∃ y, (topV r1.ss).2 = y := ⟨_, rfl⟩
  rw [hr2e, hy] at HS
  rw [hr2e] at hs2
  have HP2 := Lib.hid (fun (W : World) (sv : Value) (H : RunSt w0 W b h r1 lA lc sv) => show Calls Try.prog 28 #[.pointer (some ⟨b, 0, none⟩), .int .i64 1] W (VlRet w0 W b h r2 lA lc sv (.int .i64 y)) by have := pop_any 1 H (by omega); rw [hr2e, hy] at this; exact this)
  clear hr2e hy
  have HC := Lib.hid (fun w => comp_any 15 y x w)
  obtain ⟨n, hn⟩ : ∃ n, compV 15 y x = n := ⟨_, rfl⟩
  obtain ⟨u, hu⟩ : ∃ u, compE 15 x = u := ⟨_, rfl⟩
  rw [hn, hu] at HC HS
  clear hn
  have hu0 : u = 0 := hu.symm.trans (by rfl)
  rw [hu0] at HC HS
  clear hu hu0
  go_enter Try.func19, Try.ntmps19
  go_wp2_with (first | (first | (go_at_call 28; refine (HP2.out _ _ hr2).mono ?_; rintro e w3 ⟨rfl, sv3, hr3, hk3, hl3⟩) | (go_at_call 28; refine HP.out.mono ?_; rintro e w2 ⟨rfl, sv2, hr2, hk2, hl2⟩)) | (go_at_call 31; refine (HC.out _).mono ?_; rintro e w5 ⟨rfl, rfl⟩) | (go_at_call 33; refine (push_any hr3 1 n (by omega)).mono ?_; rintro e w4 hr4; have HR := Lib.hid hr4; obtain ⟨rfl, _⟩ := hr4))
  go_end0
  rw [HS.out, show errS 0 r2 = r2 from rfl]
  exact StRet.then_ (hk2.trans hl2 hk3) (hl2.trans hk2.size hl3) HR.out
set_option maxRecDepth 100000 in
set_option maxHeartbeats 1000000 in
theorem comp_16 {w0 W : World} {b : Nat} {h : Hd8} {r : Rs} {lA : Option Addr} {lc : Nat} {sv : Value} (H : RunSt w0 W b h r lA lc sv) (hl : r.ss.length ≤ 900000) :
    Calls Try.prog 19 #[.pointer (some ⟨b, 0, none⟩), .int .i64 16] W (StRet w0 W b h (compS 16 r) lA lc sv) := by
  have HP := Lib.hid (pop_any 1 H (by omega))
  have hs1 := popS_ss 1 r
  have HS := Lib.hid (show compS 16 r = pushS 1 (compV 16 (topV (popS 1 r).ss).2 (topV r.ss).2) (errS (compE 16 (topV r.ss).2) (popS 1 (popS 1 r))) from rfl)
  obtain ⟨r1, hr1⟩ : ∃ r1, popS 1 r = r1 := ⟨_, rfl⟩
  obtain ⟨x, hx⟩ : ∃ x, (topV r.ss).2 = x := ⟨_, rfl⟩
  rw [hr1, hx] at HP HS
  rw [hr1] at hs1
  have hs2 := popS_ss 1 r1
  clear hx hr1 H
  obtain ⟨r2, hr2e⟩ : ∃ r2, popS 1 r1 = r2 := ⟨_, rfl⟩
  obtain ⟨y, hy⟩ : ∃ y, (topV r1.ss).2 = y := ⟨_, rfl⟩
  rw [hr2e, hy] at HS
  rw [hr2e] at hs2
  have HP2 := Lib.hid (fun (W : World) (sv : Value) (H : RunSt w0 W b h r1 lA lc sv) => show Calls Try.prog 28 #[.pointer (some ⟨b, 0, none⟩), .int .i64 1] W (VlRet w0 W b h r2 lA lc sv (.int .i64 y)) by have := pop_any 1 H (by omega); rw [hr2e, hy] at this; exact this)
  clear hr2e hy
  have HC := Lib.hid (fun w => comp_any 16 y x w)
  obtain ⟨n, hn⟩ : ∃ n, compV 16 y x = n := ⟨_, rfl⟩
  obtain ⟨u, hu⟩ : ∃ u, compE 16 x = u := ⟨_, rfl⟩
  rw [hn, hu] at HC HS
  clear hn
  have hu0 : u = 0 := hu.symm.trans (by rfl)
  rw [hu0] at HC HS
  clear hu hu0
  go_enter Try.func19, Try.ntmps19
  go_wp2_with (first | (first | (go_at_call 28; refine (HP2.out _ _ hr2).mono ?_; rintro e w3 ⟨rfl, sv3, hr3, hk3, hl3⟩) | (go_at_call 28; refine HP.out.mono ?_; rintro e w2 ⟨rfl, sv2, hr2, hk2, hl2⟩)) | (go_at_call 31; refine (HC.out _).mono ?_; rintro e w5 ⟨rfl, rfl⟩) | (go_at_call 33; refine (push_any hr3 1 n (by omega)).mono ?_; rintro e w4 hr4; have HR := Lib.hid hr4; obtain ⟨rfl, _⟩ := hr4))
  go_end0
  rw [HS.out, show errS 0 r2 = r2 from rfl]
  exact StRet.then_ (hk2.trans hl2 hk3) (hl2.trans hk2.size hl3) HR.out
set_option maxRecDepth 100000 in
set_option maxHeartbeats 1000000 in
theorem comp_17 {w0 W : World} {b : Nat} {h : Hd8} {r : Rs} {lA : Option Addr} {lc : Nat} {sv : Value} (H : RunSt w0 W b h r lA lc sv) (hl : r.ss.length ≤ 900000) :
    Calls Try.prog 19 #[.pointer (some ⟨b, 0, none⟩), .int .i64 17] W (StRet w0 W b h (compS 17 r) lA lc sv) := by
  have HP := Lib.hid (pop_any 1 H (by omega))
  have hs1 := popS_ss 1 r
  have HS := Lib.hid (show compS 17 r = pushS 1 (compV 17 (topV (popS 1 r).ss).2 (topV r.ss).2) (errS (compE 17 (topV r.ss).2) (popS 1 (popS 1 r))) from rfl)
  obtain ⟨r1, hr1⟩ : ∃ r1, popS 1 r = r1 := ⟨_, rfl⟩
  obtain ⟨x, hx⟩ : ∃ x, (topV r.ss).2 = x := ⟨_, rfl⟩
  rw [hr1, hx] at HP HS
  rw [hr1] at hs1
  have hs2 := popS_ss 1 r1
  clear hx hr1 H
  obtain ⟨r2, hr2e⟩ : ∃ r2, popS 1 r1 = r2 := ⟨_, rfl⟩
  obtain ⟨y, hy⟩ : ∃ y, (topV r1.ss).2 = y := ⟨_, rfl⟩
  rw [hr2e, hy] at HS
  rw [hr2e] at hs2
  have HP2 := Lib.hid (fun (W : World) (sv : Value) (H : RunSt w0 W b h r1 lA lc sv) => show Calls Try.prog 28 #[.pointer (some ⟨b, 0, none⟩), .int .i64 1] W (VlRet w0 W b h r2 lA lc sv (.int .i64 y)) by have := pop_any 1 H (by omega); rw [hr2e, hy] at this; exact this)
  clear hr2e hy
  have HC := Lib.hid (fun w => comp_any 17 y x w)
  obtain ⟨n, hn⟩ : ∃ n, compV 17 y x = n := ⟨_, rfl⟩
  obtain ⟨u, hu⟩ : ∃ u, compE 17 x = u := ⟨_, rfl⟩
  rw [hn, hu] at HC HS
  clear hn
  have hu0 : u = 0 := hu.symm.trans (by rfl)
  rw [hu0] at HC HS
  clear hu hu0
  go_enter Try.func19, Try.ntmps19
  go_wp2_with (first | (first | (go_at_call 28; refine (HP2.out _ _ hr2).mono ?_; rintro e w3 ⟨rfl, sv3, hr3, hk3, hl3⟩) | (go_at_call 28; refine HP.out.mono ?_; rintro e w2 ⟨rfl, sv2, hr2, hk2, hl2⟩)) | (go_at_call 31; refine (HC.out _).mono ?_; rintro e w5 ⟨rfl, rfl⟩) | (go_at_call 33; refine (push_any hr3 1 n (by omega)).mono ?_; rintro e w4 hr4; have HR := Lib.hid hr4; obtain ⟨rfl, _⟩ := hr4))
  go_end0
  rw [HS.out, show errS 0 r2 = r2 from rfl]
  exact StRet.then_ (hk2.trans hl2 hk3) (hl2.trans hk2.size hl3) HR.out
set_option maxRecDepth 100000 in
set_option maxHeartbeats 1000000 in
theorem comp_18 {w0 W : World} {b : Nat} {h : Hd8} {r : Rs} {lA : Option Addr} {lc : Nat} {sv : Value} (H : RunSt w0 W b h r lA lc sv) (hl : r.ss.length ≤ 900000) :
    Calls Try.prog 19 #[.pointer (some ⟨b, 0, none⟩), .int .i64 18] W (StRet w0 W b h (compS 18 r) lA lc sv) := by
  have HP := Lib.hid (pop_any 1 H (by omega))
  have hs1 := popS_ss 1 r
  have HS := Lib.hid (show compS 18 r = pushS 1 (compV 18 (topV (popS 1 r).ss).2 (topV r.ss).2) (errS (compE 18 (topV r.ss).2) (popS 1 (popS 1 r))) from rfl)
  obtain ⟨r1, hr1⟩ : ∃ r1, popS 1 r = r1 := ⟨_, rfl⟩
  obtain ⟨x, hx⟩ : ∃ x, (topV r.ss).2 = x := ⟨_, rfl⟩
  rw [hr1, hx] at HP HS
  rw [hr1] at hs1
  have hs2 := popS_ss 1 r1
  clear hx hr1 H
  obtain ⟨r2, hr2e⟩ : ∃ r2, popS 1 r1 = r2 := ⟨_, rfl⟩
  obtain ⟨y, hy⟩ : ∃ y, (topV r1.ss).2 = y := ⟨_, rfl⟩
  rw [hr2e, hy] at HS
  rw [hr2e] at hs2
  have HP2 := Lib.hid (fun (W : World) (sv : Value) (H : RunSt w0 W b h r1 lA lc sv) => show Calls Try.prog 28 #[.pointer (some ⟨b, 0, none⟩), .int .i64 1] W (VlRet w0 W b h r2 lA lc sv (.int .i64 y)) by have := pop_any 1 H (by omega); rw [hr2e, hy] at this; exact this)
  clear hr2e hy
  have HC := Lib.hid (fun w => comp_any 18 y x w)
  obtain ⟨n, hn⟩ : ∃ n, compV 18 y x = n := ⟨_, rfl⟩
  obtain ⟨u, hu⟩ : ∃ u, compE 18 x = u := ⟨_, rfl⟩
  rw [hn, hu] at HC HS
  clear hn
  clear hu
  by_cases hu : u = 0
  · subst hu
    go_enter Try.func19, Try.ntmps19
    go_wp2_with (first | (first | (go_at_call 28; refine (HP2.out _ _ hr2).mono ?_; rintro e w3 ⟨rfl, sv3, hr3, hk3, hl3⟩) | (go_at_call 28; refine HP.out.mono ?_; rintro e w2 ⟨rfl, sv2, hr2, hk2, hl2⟩)) | (go_at_call 31; refine (HC.out _).mono ?_; rintro e w5 ⟨rfl, rfl⟩) | (go_at_call 33; refine (push_any hr3 1 n (by omega)).mono ?_; rintro e w4 hr4; have HR := Lib.hid hr4; obtain ⟨rfl, _⟩ := hr4))
    go_end0
    rw [HS.out, show errS 0 r2 = r2 from rfl]
    exact StRet.then_ (hk2.trans hl2 hk3) (hl2.trans hk2.size hl3) HR.out
  · have hue : (u == 0) = false := by simpa using hu
    have HU := Lib.hid (show errS u r2 = failS u r2 from if_neg hu)
    clear hu
    go_enter Try.func19, Try.ntmps19
    go_wp2_with (first | (first | (go_at_call 28; refine (HP2.out _ _ hr2).mono ?_; rintro e w3 ⟨rfl, sv3, hr3, hk3, hl3⟩) | (go_at_call 28; refine HP.out.mono ?_; rintro e w2 ⟨rfl, sv2, hr2, hk2, hl2⟩)) | (go_at_call 31; refine (HC.out _).mono ?_; rintro e w5 ⟨rfl, rfl⟩) | (go_at_call 32; refine (fail_any hr3 u).mono ?_; rintro e w6 ⟨rfl, sv6, hr6, hk6, hl6⟩) | (go_at_call 33; refine (push_any hr6 1 n (by rw [failS_ss]; omega)).mono ?_; rintro e w4 hr4; have HR := Lib.hid hr4; obtain ⟨rfl, _⟩ := hr4))
    go_end0
    rw [HS.out, HU.out]
    exact StRet.then_ ((hk2.trans hl2 hk3).trans (hl2.trans hk2.size hl3) hk6) ((hl2.trans hk2.size hl3).trans (hk2.trans hl2 hk3).size hl6) HR.out
set_option maxRecDepth 100000 in
set_option maxHeartbeats 1000000 in
theorem comp_19 {w0 W : World} {b : Nat} {h : Hd8} {r : Rs} {lA : Option Addr} {lc : Nat} {sv : Value} (H : RunSt w0 W b h r lA lc sv) (hl : r.ss.length ≤ 900000) :
    Calls Try.prog 19 #[.pointer (some ⟨b, 0, none⟩), .int .i64 19] W (StRet w0 W b h (compS 19 r) lA lc sv) := by
  have HP := Lib.hid (pop_any 1 H (by omega))
  have hs1 := popS_ss 1 r
  have HS := Lib.hid (show compS 19 r = pushS 1 (compV 19 (topV (popS 1 r).ss).2 (topV r.ss).2) (errS (compE 19 (topV r.ss).2) (popS 1 (popS 1 r))) from rfl)
  obtain ⟨r1, hr1⟩ : ∃ r1, popS 1 r = r1 := ⟨_, rfl⟩
  obtain ⟨x, hx⟩ : ∃ x, (topV r.ss).2 = x := ⟨_, rfl⟩
  rw [hr1, hx] at HP HS
  rw [hr1] at hs1
  have hs2 := popS_ss 1 r1
  clear hx hr1 H
  obtain ⟨r2, hr2e⟩ : ∃ r2, popS 1 r1 = r2 := ⟨_, rfl⟩
  obtain ⟨y, hy⟩ : ∃ y, (topV r1.ss).2 = y := ⟨_, rfl⟩
  rw [hr2e, hy] at HS
  rw [hr2e] at hs2
  have HP2 := Lib.hid (fun (W : World) (sv : Value) (H : RunSt w0 W b h r1 lA lc sv) => show Calls Try.prog 28 #[.pointer (some ⟨b, 0, none⟩), .int .i64 1] W (VlRet w0 W b h r2 lA lc sv (.int .i64 y)) by have := pop_any 1 H (by omega); rw [hr2e, hy] at this; exact this)
  clear hr2e hy
  have HC := Lib.hid (fun w => comp_any 19 y x w)
  obtain ⟨n, hn⟩ : ∃ n, compV 19 y x = n := ⟨_, rfl⟩
  obtain ⟨u, hu⟩ : ∃ u, compE 19 x = u := ⟨_, rfl⟩
  rw [hn, hu] at HC HS
  clear hn
  clear hu
  by_cases hu : u = 0
  · subst hu
    go_enter Try.func19, Try.ntmps19
    go_wp2_with (first | (first | (go_at_call 28; refine (HP2.out _ _ hr2).mono ?_; rintro e w3 ⟨rfl, sv3, hr3, hk3, hl3⟩) | (go_at_call 28; refine HP.out.mono ?_; rintro e w2 ⟨rfl, sv2, hr2, hk2, hl2⟩)) | (go_at_call 31; refine (HC.out _).mono ?_; rintro e w5 ⟨rfl, rfl⟩) | (go_at_call 33; refine (push_any hr3 1 n (by omega)).mono ?_; rintro e w4 hr4; have HR := Lib.hid hr4; obtain ⟨rfl, _⟩ := hr4))
    go_end0
    rw [HS.out, show errS 0 r2 = r2 from rfl]
    exact StRet.then_ (hk2.trans hl2 hk3) (hl2.trans hk2.size hl3) HR.out
  · have hue : (u == 0) = false := by simpa using hu
    have HU := Lib.hid (show errS u r2 = failS u r2 from if_neg hu)
    clear hu
    go_enter Try.func19, Try.ntmps19
    go_wp2_with (first | (first | (go_at_call 28; refine (HP2.out _ _ hr2).mono ?_; rintro e w3 ⟨rfl, sv3, hr3, hk3, hl3⟩) | (go_at_call 28; refine HP.out.mono ?_; rintro e w2 ⟨rfl, sv2, hr2, hk2, hl2⟩)) | (go_at_call 31; refine (HC.out _).mono ?_; rintro e w5 ⟨rfl, rfl⟩) | (go_at_call 32; refine (fail_any hr3 u).mono ?_; rintro e w6 ⟨rfl, sv6, hr6, hk6, hl6⟩) | (go_at_call 33; refine (push_any hr6 1 n (by rw [failS_ss]; omega)).mono ?_; rintro e w4 hr4; have HR := Lib.hid hr4; obtain ⟨rfl, _⟩ := hr4))
    go_end0
    rw [HS.out, HU.out]
    exact StRet.then_ ((hk2.trans hl2 hk3).trans (hl2.trans hk2.size hl3) hk6) ((hl2.trans hk2.size hl3).trans (hk2.trans hl2 hk3).size hl6) HR.out
set_option maxRecDepth 100000 in
set_option maxHeartbeats 1000000 in
theorem comp_20 {w0 W : World} {b : Nat} {h : Hd8} {r : Rs} {lA : Option Addr} {lc : Nat} {sv : Value} (H : RunSt w0 W b h r lA lc sv) (hl : r.ss.length ≤ 900000) :
    Calls Try.prog 19 #[.pointer (some ⟨b, 0, none⟩), .int .i64 20] W (StRet w0 W b h (compS 20 r) lA lc sv) := by
  have HP := Lib.hid (pop_any 1 H (by omega))
  have hs1 := popS_ss 1 r
  have HS := Lib.hid (show compS 20 r = pushS 1 (compV 20 (topV r.ss).2 0) (errS (compE 20 0) (popS 1 r)) from rfl)
  obtain ⟨r1, hr1⟩ : ∃ r1, popS 1 r = r1 := ⟨_, rfl⟩
  obtain ⟨x, hx⟩ : ∃ x, (topV r.ss).2 = x := ⟨_, rfl⟩
  rw [hr1, hx] at HP HS
  rw [hr1] at hs1
  clear hx hr1 H
  have HC := Lib.hid (fun w => comp_any 20 x 0 w)
  obtain ⟨n, hn⟩ : ∃ n, compV 20 x 0 = n := ⟨_, rfl⟩
  obtain ⟨u, hu⟩ : ∃ u, compE 20 0 = u := ⟨_, rfl⟩
  rw [hn, hu] at HC HS
  clear hn
  have hu0 : u = 0 := hu.symm.trans (by rfl)
  rw [hu0] at HC HS
  clear hu hu0
  have hp2 := HP
  go_enter Try.func19, Try.ntmps19
  go_wp2_with (first | ((go_at_call 28; refine HP.out.mono ?_; rintro e w2 ⟨rfl, sv2, hr2, hk2, hl2⟩)) | (go_at_call 31; refine (HC.out _).mono ?_; rintro e w5 ⟨rfl, rfl⟩) | (go_at_call 33; refine (push_any hr2 1 n (by omega)).mono ?_; rintro e w4 hr4; have HR := Lib.hid hr4; obtain ⟨rfl, _⟩ := hr4))
  go_end0
  rw [HS.out, show errS 0 r1 = r1 from rfl]
  exact StRet.then_ (hk2) (hl2) HR.out
set_option maxRecDepth 100000 in
set_option maxHeartbeats 1000000 in
theorem comp_21 {w0 W : World} {b : Nat} {h : Hd8} {r : Rs} {lA : Option Addr} {lc : Nat} {sv : Value} (H : RunSt w0 W b h r lA lc sv) (hl : r.ss.length ≤ 900000) :
    Calls Try.prog 19 #[.pointer (some ⟨b, 0, none⟩), .int .i64 21] W (StRet w0 W b h (compS 21 r) lA lc sv) := by
  have HP := Lib.hid (pop_any 1 H (by omega))
  have hs1 := popS_ss 1 r
  have HS := Lib.hid (show compS 21 r = pushS 1 (compV 21 (topV (popS 1 r).ss).2 (topV r.ss).2) (errS (compE 21 (topV r.ss).2) (popS 1 (popS 1 r))) from rfl)
  obtain ⟨r1, hr1⟩ : ∃ r1, popS 1 r = r1 := ⟨_, rfl⟩
  obtain ⟨x, hx⟩ : ∃ x, (topV r.ss).2 = x := ⟨_, rfl⟩
  rw [hr1, hx] at HP HS
  rw [hr1] at hs1
  have hs2 := popS_ss 1 r1
  clear hx hr1 H
  obtain ⟨r2, hr2e⟩ : ∃ r2, popS 1 r1 = r2 := ⟨_, rfl⟩
  obtain ⟨y, hy⟩ : ∃ y, (topV r1.ss).2 = y := ⟨_, rfl⟩
  rw [hr2e, hy] at HS
  rw [hr2e] at hs2
  have HP2 := Lib.hid (fun (W : World) (sv : Value) (H : RunSt w0 W b h r1 lA lc sv) => show Calls Try.prog 28 #[.pointer (some ⟨b, 0, none⟩), .int .i64 1] W (VlRet w0 W b h r2 lA lc sv (.int .i64 y)) by have := pop_any 1 H (by omega); rw [hr2e, hy] at this; exact this)
  clear hr2e hy
  have HC := Lib.hid (fun w => comp_any 21 y x w)
  obtain ⟨n, hn⟩ : ∃ n, compV 21 y x = n := ⟨_, rfl⟩
  obtain ⟨u, hu⟩ : ∃ u, compE 21 x = u := ⟨_, rfl⟩
  rw [hn, hu] at HC HS
  clear hn
  have hu0 : u = 0 := hu.symm.trans (by rfl)
  rw [hu0] at HC HS
  clear hu hu0
  go_enter Try.func19, Try.ntmps19
  go_wp2_with (first | (first | (go_at_call 28; refine (HP2.out _ _ hr2).mono ?_; rintro e w3 ⟨rfl, sv3, hr3, hk3, hl3⟩) | (go_at_call 28; refine HP.out.mono ?_; rintro e w2 ⟨rfl, sv2, hr2, hk2, hl2⟩)) | (go_at_call 31; refine (HC.out _).mono ?_; rintro e w5 ⟨rfl, rfl⟩) | (go_at_call 33; refine (push_any hr3 1 n (by omega)).mono ?_; rintro e w4 hr4; have HR := Lib.hid hr4; obtain ⟨rfl, _⟩ := hr4))
  go_end0
  rw [HS.out, show errS 0 r2 = r2 from rfl]
  exact StRet.then_ (hk2.trans hl2 hk3) (hl2.trans hk2.size hl3) HR.out
set_option maxRecDepth 100000 in
set_option maxHeartbeats 1000000 in
theorem comp_22 {w0 W : World} {b : Nat} {h : Hd8} {r : Rs} {lA : Option Addr} {lc : Nat} {sv : Value} (H : RunSt w0 W b h r lA lc sv) (hl : r.ss.length ≤ 900000) :
    Calls Try.prog 19 #[.pointer (some ⟨b, 0, none⟩), .int .i64 22] W (StRet w0 W b h (compS 22 r) lA lc sv) := by
  have HP := Lib.hid (pop_any 1 H (by omega))
  have hs1 := popS_ss 1 r
  have HS := Lib.hid (show compS 22 r = pushS 1 (compV 22 (topV (popS 1 r).ss).2 (topV r.ss).2) (errS (compE 22 (topV r.ss).2) (popS 1 (popS 1 r))) from rfl)
  obtain ⟨r1, hr1⟩ : ∃ r1, popS 1 r = r1 := ⟨_, rfl⟩
  obtain ⟨x, hx⟩ : ∃ x, (topV r.ss).2 = x := ⟨_, rfl⟩
  rw [hr1, hx] at HP HS
  rw [hr1] at hs1
  have hs2 := popS_ss 1 r1
  clear hx hr1 H
  obtain ⟨r2, hr2e⟩ : ∃ r2, popS 1 r1 = r2 := ⟨_, rfl⟩
  obtain ⟨y, hy⟩ : ∃ y, (topV r1.ss).2 = y := ⟨_, rfl⟩
  rw [hr2e, hy] at HS
  rw [hr2e] at hs2
  have HP2 := Lib.hid (fun (W : World) (sv : Value) (H : RunSt w0 W b h r1 lA lc sv) => show Calls Try.prog 28 #[.pointer (some ⟨b, 0, none⟩), .int .i64 1] W (VlRet w0 W b h r2 lA lc sv (.int .i64 y)) by have := pop_any 1 H (by omega); rw [hr2e, hy] at this; exact this)
  clear hr2e hy
  have HC := Lib.hid (fun w => comp_any 22 y x w)
  obtain ⟨n, hn⟩ : ∃ n, compV 22 y x = n := ⟨_, rfl⟩
  obtain ⟨u, hu⟩ : ∃ u, compE 22 x = u := ⟨_, rfl⟩
  rw [hn, hu] at HC HS
  clear hn
  have hu0 : u = 0 := hu.symm.trans (by rfl)
  rw [hu0] at HC HS
  clear hu hu0
  go_enter Try.func19, Try.ntmps19
  go_wp2_with (first | (first | (go_at_call 28; refine (HP2.out _ _ hr2).mono ?_; rintro e w3 ⟨rfl, sv3, hr3, hk3, hl3⟩) | (go_at_call 28; refine HP.out.mono ?_; rintro e w2 ⟨rfl, sv2, hr2, hk2, hl2⟩)) | (go_at_call 31; refine (HC.out _).mono ?_; rintro e w5 ⟨rfl, rfl⟩) | (go_at_call 33; refine (push_any hr3 1 n (by omega)).mono ?_; rintro e w4 hr4; have HR := Lib.hid hr4; obtain ⟨rfl, _⟩ := hr4))
  go_end0
  rw [HS.out, show errS 0 r2 = r2 from rfl]
  exact StRet.then_ (hk2.trans hl2 hk3) (hl2.trans hk2.size hl3) HR.out
set_option maxRecDepth 100000 in
set_option maxHeartbeats 1000000 in
theorem comp_23 {w0 W : World} {b : Nat} {h : Hd8} {r : Rs} {lA : Option Addr} {lc : Nat} {sv : Value} (H : RunSt w0 W b h r lA lc sv) (hl : r.ss.length ≤ 900000) :
    Calls Try.prog 19 #[.pointer (some ⟨b, 0, none⟩), .int .i64 23] W (StRet w0 W b h (compS 23 r) lA lc sv) := by
  have HP := Lib.hid (pop_any 1 H (by omega))
  have hs1 := popS_ss 1 r
  have HS := Lib.hid (show compS 23 r = pushS 1 (compV 23 (topV (popS 1 r).ss).2 (topV r.ss).2) (errS (compE 23 (topV r.ss).2) (popS 1 (popS 1 r))) from rfl)
  obtain ⟨r1, hr1⟩ : ∃ r1, popS 1 r = r1 := ⟨_, rfl⟩
  obtain ⟨x, hx⟩ : ∃ x, (topV r.ss).2 = x := ⟨_, rfl⟩
  rw [hr1, hx] at HP HS
  rw [hr1] at hs1
  have hs2 := popS_ss 1 r1
  clear hx hr1 H
  obtain ⟨r2, hr2e⟩ : ∃ r2, popS 1 r1 = r2 := ⟨_, rfl⟩
  obtain ⟨y, hy⟩ : ∃ y, (topV r1.ss).2 = y := ⟨_, rfl⟩
  rw [hr2e, hy] at HS
  rw [hr2e] at hs2
  have HP2 := Lib.hid (fun (W : World) (sv : Value) (H : RunSt w0 W b h r1 lA lc sv) => show Calls Try.prog 28 #[.pointer (some ⟨b, 0, none⟩), .int .i64 1] W (VlRet w0 W b h r2 lA lc sv (.int .i64 y)) by have := pop_any 1 H (by omega); rw [hr2e, hy] at this; exact this)
  clear hr2e hy
  have HC := Lib.hid (fun w => comp_any 23 y x w)
  obtain ⟨n, hn⟩ : ∃ n, compV 23 y x = n := ⟨_, rfl⟩
  obtain ⟨u, hu⟩ : ∃ u, compE 23 x = u := ⟨_, rfl⟩
  rw [hn, hu] at HC HS
  clear hn
  have hu0 : u = 0 := hu.symm.trans (by rfl)
  rw [hu0] at HC HS
  clear hu hu0
  go_enter Try.func19, Try.ntmps19
  go_wp2_with (first | (first | (go_at_call 28; refine (HP2.out _ _ hr2).mono ?_; rintro e w3 ⟨rfl, sv3, hr3, hk3, hl3⟩) | (go_at_call 28; refine HP.out.mono ?_; rintro e w2 ⟨rfl, sv2, hr2, hk2, hl2⟩)) | (go_at_call 31; refine (HC.out _).mono ?_; rintro e w5 ⟨rfl, rfl⟩) | (go_at_call 33; refine (push_any hr3 1 n (by omega)).mono ?_; rintro e w4 hr4; have HR := Lib.hid hr4; obtain ⟨rfl, _⟩ := hr4))
  go_end0
  rw [HS.out, show errS 0 r2 = r2 from rfl]
  exact StRet.then_ (hk2.trans hl2 hk3) (hl2.trans hk2.size hl3) HR.out
set_option maxRecDepth 100000 in
set_option maxHeartbeats 1000000 in
theorem comp_24 {w0 W : World} {b : Nat} {h : Hd8} {r : Rs} {lA : Option Addr} {lc : Nat} {sv : Value} (H : RunSt w0 W b h r lA lc sv) (hl : r.ss.length ≤ 900000) :
    Calls Try.prog 19 #[.pointer (some ⟨b, 0, none⟩), .int .i64 24] W (StRet w0 W b h (compS 24 r) lA lc sv) := by
  have HP := Lib.hid (pop_any 1 H (by omega))
  have hs1 := popS_ss 1 r
  have HS := Lib.hid (show compS 24 r = pushS 1 (compV 24 (topV (popS 1 r).ss).2 (topV r.ss).2) (errS (compE 24 (topV r.ss).2) (popS 1 (popS 1 r))) from rfl)
  obtain ⟨r1, hr1⟩ : ∃ r1, popS 1 r = r1 := ⟨_, rfl⟩
  obtain ⟨x, hx⟩ : ∃ x, (topV r.ss).2 = x := ⟨_, rfl⟩
  rw [hr1, hx] at HP HS
  rw [hr1] at hs1
  have hs2 := popS_ss 1 r1
  clear hx hr1 H
  obtain ⟨r2, hr2e⟩ : ∃ r2, popS 1 r1 = r2 := ⟨_, rfl⟩
  obtain ⟨y, hy⟩ : ∃ y, (topV r1.ss).2 = y := ⟨_, rfl⟩
  rw [hr2e, hy] at HS
  rw [hr2e] at hs2
  have HP2 := Lib.hid (fun (W : World) (sv : Value) (H : RunSt w0 W b h r1 lA lc sv) => show Calls Try.prog 28 #[.pointer (some ⟨b, 0, none⟩), .int .i64 1] W (VlRet w0 W b h r2 lA lc sv (.int .i64 y)) by have := pop_any 1 H (by omega); rw [hr2e, hy] at this; exact this)
  clear hr2e hy
  have HC := Lib.hid (fun w => comp_any 24 y x w)
  obtain ⟨n, hn⟩ : ∃ n, compV 24 y x = n := ⟨_, rfl⟩
  obtain ⟨u, hu⟩ : ∃ u, compE 24 x = u := ⟨_, rfl⟩
  rw [hn, hu] at HC HS
  clear hn
  have hu0 : u = 0 := hu.symm.trans (by rfl)
  rw [hu0] at HC HS
  clear hu hu0
  go_enter Try.func19, Try.ntmps19
  go_wp2_with (first | (first | (go_at_call 28; refine (HP2.out _ _ hr2).mono ?_; rintro e w3 ⟨rfl, sv3, hr3, hk3, hl3⟩) | (go_at_call 28; refine HP.out.mono ?_; rintro e w2 ⟨rfl, sv2, hr2, hk2, hl2⟩)) | (go_at_call 31; refine (HC.out _).mono ?_; rintro e w5 ⟨rfl, rfl⟩) | (go_at_call 33; refine (push_any hr3 1 n (by omega)).mono ?_; rintro e w4 hr4; have HR := Lib.hid hr4; obtain ⟨rfl, _⟩ := hr4))
  go_end0
  rw [HS.out, show errS 0 r2 = r2 from rfl]
  exact StRet.then_ (hk2.trans hl2 hk3) (hl2.trans hk2.size hl3) HR.out
set_option maxRecDepth 100000 in
set_option maxHeartbeats 1000000 in
theorem comp_25 {w0 W : World} {b : Nat} {h : Hd8} {r : Rs} {lA : Option Addr} {lc : Nat} {sv : Value} (H : RunSt w0 W b h r lA lc sv) (hl : r.ss.length ≤ 900000) :
    Calls Try.prog 19 #[.pointer (some ⟨b, 0, none⟩), .int .i64 25] W (StRet w0 W b h (compS 25 r) lA lc sv) := by
  have HP := Lib.hid (pop_any 1 H (by omega))
  have hs1 := popS_ss 1 r
  have HS := Lib.hid (show compS 25 r = pushS 1 (compV 25 (topV (popS 1 r).ss).2 (topV r.ss).2) (errS (compE 25 (topV r.ss).2) (popS 1 (popS 1 r))) from rfl)
  obtain ⟨r1, hr1⟩ : ∃ r1, popS 1 r = r1 := ⟨_, rfl⟩
  obtain ⟨x, hx⟩ : ∃ x, (topV r.ss).2 = x := ⟨_, rfl⟩
  rw [hr1, hx] at HP HS
  rw [hr1] at hs1
  have hs2 := popS_ss 1 r1
  clear hx hr1 H
  obtain ⟨r2, hr2e⟩ : ∃ r2, popS 1 r1 = r2 := ⟨_, rfl⟩
  obtain ⟨y, hy⟩ : ∃ y, (topV r1.ss).2 = y := ⟨_, rfl⟩
  rw [hr2e, hy] at HS
  rw [hr2e] at hs2
  have HP2 := Lib.hid (fun (W : World) (sv : Value) (H : RunSt w0 W b h r1 lA lc sv) => show Calls Try.prog 28 #[.pointer (some ⟨b, 0, none⟩), .int .i64 1] W (VlRet w0 W b h r2 lA lc sv (.int .i64 y)) by have := pop_any 1 H (by omega); rw [hr2e, hy] at this; exact this)
  clear hr2e hy
  have HC := Lib.hid (fun w => comp_any 25 y x w)
  obtain ⟨n, hn⟩ : ∃ n, compV 25 y x = n := ⟨_, rfl⟩
  obtain ⟨u, hu⟩ : ∃ u, compE 25 x = u := ⟨_, rfl⟩
  rw [hn, hu] at HC HS
  clear hn
  have hu0 : u = 0 := hu.symm.trans (by rfl)
  rw [hu0] at HC HS
  clear hu hu0
  go_enter Try.func19, Try.ntmps19
  go_wp2_with (first | (first | (go_at_call 28; refine (HP2.out _ _ hr2).mono ?_; rintro e w3 ⟨rfl, sv3, hr3, hk3, hl3⟩) | (go_at_call 28; refine HP.out.mono ?_; rintro e w2 ⟨rfl, sv2, hr2, hk2, hl2⟩)) | (go_at_call 31; refine (HC.out _).mono ?_; rintro e w5 ⟨rfl, rfl⟩) | (go_at_call 33; refine (push_any hr3 1 n (by omega)).mono ?_; rintro e w4 hr4; have HR := Lib.hid hr4; obtain ⟨rfl, _⟩ := hr4))
  go_end0
  rw [HS.out, show errS 0 r2 = r2 from rfl]
  exact StRet.then_ (hk2.trans hl2 hk3) (hl2.trans hk2.size hl3) HR.out
set_option maxRecDepth 100000 in
set_option maxHeartbeats 1000000 in
theorem comp_26 {w0 W : World} {b : Nat} {h : Hd8} {r : Rs} {lA : Option Addr} {lc : Nat} {sv : Value} (H : RunSt w0 W b h r lA lc sv) (hl : r.ss.length ≤ 900000) :
    Calls Try.prog 19 #[.pointer (some ⟨b, 0, none⟩), .int .i64 26] W (StRet w0 W b h (compS 26 r) lA lc sv) := by
  have HP := Lib.hid (pop_any 1 H (by omega))
  have hs1 := popS_ss 1 r
  have HS := Lib.hid (show compS 26 r = pushS 1 (compV 26 (topV (popS 1 r).ss).2 (topV r.ss).2) (errS (compE 26 (topV r.ss).2) (popS 1 (popS 1 r))) from rfl)
  obtain ⟨r1, hr1⟩ : ∃ r1, popS 1 r = r1 := ⟨_, rfl⟩
  obtain ⟨x, hx⟩ : ∃ x, (topV r.ss).2 = x := ⟨_, rfl⟩
  rw [hr1, hx] at HP HS
  rw [hr1] at hs1
  have hs2 := popS_ss 1 r1
  clear hx hr1 H
  obtain ⟨r2, hr2e⟩ : ∃ r2, popS 1 r1 = r2 := ⟨_, rfl⟩
  obtain ⟨y, hy⟩ : ∃ y, (topV r1.ss).2 = y := ⟨_, rfl⟩
  rw [hr2e, hy] at HS
  rw [hr2e] at hs2
  have HP2 := Lib.hid (fun (W : World) (sv : Value) (H : RunSt w0 W b h r1 lA lc sv) => show Calls Try.prog 28 #[.pointer (some ⟨b, 0, none⟩), .int .i64 1] W (VlRet w0 W b h r2 lA lc sv (.int .i64 y)) by have := pop_any 1 H (by omega); rw [hr2e, hy] at this; exact this)
  clear hr2e hy
  have HC := Lib.hid (fun w => comp_any 26 y x w)
  obtain ⟨n, hn⟩ : ∃ n, compV 26 y x = n := ⟨_, rfl⟩
  obtain ⟨u, hu⟩ : ∃ u, compE 26 x = u := ⟨_, rfl⟩
  rw [hn, hu] at HC HS
  clear hn
  have hu0 : u = 0 := hu.symm.trans (by rfl)
  rw [hu0] at HC HS
  clear hu hu0
  go_enter Try.func19, Try.ntmps19
  go_wp2_with (first | (first | (go_at_call 28; refine (HP2.out _ _ hr2).mono ?_; rintro e w3 ⟨rfl, sv3, hr3, hk3, hl3⟩) | (go_at_call 28; refine HP.out.mono ?_; rintro e w2 ⟨rfl, sv2, hr2, hk2, hl2⟩)) | (go_at_call 31; refine (HC.out _).mono ?_; rintro e w5 ⟨rfl, rfl⟩) | (go_at_call 33; refine (push_any hr3 1 n (by omega)).mono ?_; rintro e w4 hr4; have HR := Lib.hid hr4; obtain ⟨rfl, _⟩ := hr4))
  go_end0
  rw [HS.out, show errS 0 r2 = r2 from rfl]
  exact StRet.then_ (hk2.trans hl2 hk3) (hl2.trans hk2.size hl3) HR.out
set_option maxRecDepth 100000 in
set_option maxHeartbeats 1000000 in
theorem comp_27 {w0 W : World} {b : Nat} {h : Hd8} {r : Rs} {lA : Option Addr} {lc : Nat} {sv : Value} (H : RunSt w0 W b h r lA lc sv) (hl : r.ss.length ≤ 900000) :
    Calls Try.prog 19 #[.pointer (some ⟨b, 0, none⟩), .int .i64 27] W (StRet w0 W b h (compS 27 r) lA lc sv) := by
  have HP := Lib.hid (pop_any 2 H (by omega))
  have hs1 := popS_ss 2 r
  have HS := Lib.hid (show compS 27 r = pushS 2 (compV 27 (topV (popS 2 r).ss).2 (topV r.ss).2) (errS (compE 27 (topV r.ss).2) (popS 2 (popS 2 r))) from rfl)
  obtain ⟨r1, hr1⟩ : ∃ r1, popS 2 r = r1 := ⟨_, rfl⟩
  obtain ⟨x, hx⟩ : ∃ x, (topV r.ss).2 = x := ⟨_, rfl⟩
  rw [hr1, hx] at HP HS
  rw [hr1] at hs1
  have hs2 := popS_ss 2 r1
  clear hx hr1 H
  obtain ⟨r2, hr2e⟩ : ∃ r2, popS 2 r1 = r2 := ⟨_, rfl⟩
  obtain ⟨y, hy⟩ : ∃ y, (topV r1.ss).2 = y := ⟨_, rfl⟩
  rw [hr2e, hy] at HS
  rw [hr2e] at hs2
  have HP2 := Lib.hid (fun (W : World) (sv : Value) (H : RunSt w0 W b h r1 lA lc sv) => show Calls Try.prog 28 #[.pointer (some ⟨b, 0, none⟩), .int .i64 2] W (VlRet w0 W b h r2 lA lc sv (.int .i64 y)) by have := pop_any 2 H (by omega); rw [hr2e, hy] at this; exact this)
  clear hr2e hy
  have HC := Lib.hid (fun w => comp_any 27 y x w)
  obtain ⟨n, hn⟩ : ∃ n, compV 27 y x = n := ⟨_, rfl⟩
  obtain ⟨u, hu⟩ : ∃ u, compE 27 x = u := ⟨_, rfl⟩
  rw [hn, hu] at HC HS
  clear hn
  have hu0 : u = 0 := hu.symm.trans (by rfl)
  rw [hu0] at HC HS
  clear hu hu0
  go_enter Try.func19, Try.ntmps19
  go_wp2_with (first | (first | (go_at_call 28; refine (HP2.out _ _ hr2).mono ?_; rintro e w3 ⟨rfl, sv3, hr3, hk3, hl3⟩) | (go_at_call 28; refine HP.out.mono ?_; rintro e w2 ⟨rfl, sv2, hr2, hk2, hl2⟩)) | (go_at_call 31; refine (HC.out _).mono ?_; rintro e w5 ⟨rfl, rfl⟩) | (go_at_call 33; refine (push_any hr3 2 n (by omega)).mono ?_; rintro e w4 hr4; have HR := Lib.hid hr4; obtain ⟨rfl, _⟩ := hr4))
  go_end0
  rw [HS.out, show errS 0 r2 = r2 from rfl]
  exact StRet.then_ (hk2.trans hl2 hk3) (hl2.trans hk2.size hl3) HR.out
set_option maxRecDepth 100000 in
set_option maxHeartbeats 1000000 in
theorem comp_28 {w0 W : World} {b : Nat} {h : Hd8} {r : Rs} {lA : Option Addr} {lc : Nat} {sv : Value} (H : RunSt w0 W b h r lA lc sv) (hl : r.ss.length ≤ 900000) :
    Calls Try.prog 19 #[.pointer (some ⟨b, 0, none⟩), .int .i64 28] W (StRet w0 W b h (compS 28 r) lA lc sv) := by
  have HP := Lib.hid (pop_any 2 H (by omega))
  have hs1 := popS_ss 2 r
  have HS := Lib.hid (show compS 28 r = pushS 2 (compV 28 (topV (popS 2 r).ss).2 (topV r.ss).2) (errS (compE 28 (topV r.ss).2) (popS 2 (popS 2 r))) from rfl)
  obtain ⟨r1, hr1⟩ : ∃ r1, popS 2 r = r1 := ⟨_, rfl⟩
  obtain ⟨x, hx⟩ : ∃ x, (topV r.ss).2 = x := ⟨_, rfl⟩
  rw [hr1, hx] at HP HS
  rw [hr1] at hs1
  have hs2 := popS_ss 2 r1
  clear hx hr1 H
  obtain ⟨r2, hr2e⟩ : ∃ r2, popS 2 r1 = r2 := ⟨_, rfl⟩
  obtain ⟨y, hy⟩ : ∃ y, (topV r1.ss).2 = y := ⟨_, rfl⟩
  rw [hr2e, hy] at HS
  rw [hr2e] at hs2
  have HP2 := Lib.hid (fun (W : World) (sv : Value) (H : RunSt w0 W b h r1 lA lc sv) => show Calls Try.prog 28 #[.pointer (some ⟨b, 0, none⟩), .int .i64 2] W (VlRet w0 W b h r2 lA lc sv (.int .i64 y)) by have := pop_any 2 H (by omega); rw [hr2e, hy] at this; exact this)
  clear hr2e hy
  have HC := Lib.hid (fun w => comp_any 28 y x w)
  obtain ⟨n, hn⟩ : ∃ n, compV 28 y x = n := ⟨_, rfl⟩
  obtain ⟨u, hu⟩ : ∃ u, compE 28 x = u := ⟨_, rfl⟩
  rw [hn, hu] at HC HS
  clear hn
  have hu0 : u = 0 := hu.symm.trans (by rfl)
  rw [hu0] at HC HS
  clear hu hu0
  go_enter Try.func19, Try.ntmps19
  go_wp2_with (first | (first | (go_at_call 28; refine (HP2.out _ _ hr2).mono ?_; rintro e w3 ⟨rfl, sv3, hr3, hk3, hl3⟩) | (go_at_call 28; refine HP.out.mono ?_; rintro e w2 ⟨rfl, sv2, hr2, hk2, hl2⟩)) | (go_at_call 31; refine (HC.out _).mono ?_; rintro e w5 ⟨rfl, rfl⟩) | (go_at_call 33; refine (push_any hr3 2 n (by omega)).mono ?_; rintro e w4 hr4; have HR := Lib.hid hr4; obtain ⟨rfl, _⟩ := hr4))
  go_end0
  rw [HS.out, show errS 0 r2 = r2 from rfl]
  exact StRet.then_ (hk2.trans hl2 hk3) (hl2.trans hk2.size hl3) HR.out
set_option maxRecDepth 100000 in
set_option maxHeartbeats 1000000 in
theorem comp_29 {w0 W : World} {b : Nat} {h : Hd8} {r : Rs} {lA : Option Addr} {lc : Nat} {sv : Value} (H : RunSt w0 W b h r lA lc sv) (hl : r.ss.length ≤ 900000) :
    Calls Try.prog 19 #[.pointer (some ⟨b, 0, none⟩), .int .i64 29] W (StRet w0 W b h (compS 29 r) lA lc sv) := by
  have HP := Lib.hid (pop_any 2 H (by omega))
  have hs1 := popS_ss 2 r
  have HS := Lib.hid (show compS 29 r = pushS 2 (compV 29 (topV (popS 2 r).ss).2 (topV r.ss).2) (errS (compE 29 (topV r.ss).2) (popS 2 (popS 2 r))) from rfl)
  obtain ⟨r1, hr1⟩ : ∃ r1, popS 2 r = r1 := ⟨_, rfl⟩
  obtain ⟨x, hx⟩ : ∃ x, (topV r.ss).2 = x := ⟨_, rfl⟩
  rw [hr1, hx] at HP HS
  rw [hr1] at hs1
  have hs2 := popS_ss 2 r1
  clear hx hr1 H
  obtain ⟨r2, hr2e⟩ : ∃ r2, popS 2 r1 = r2 := ⟨_, rfl⟩
  obtain ⟨y, hy⟩ : ∃ y, (topV r1.ss).2 = y := ⟨_, rfl⟩
  rw [hr2e, hy] at HS
  rw [hr2e] at hs2
  have HP2 := Lib.hid (fun (W : World) (sv : Value) (H : RunSt w0 W b h r1 lA lc sv) => show Calls Try.prog 28 #[.pointer (some ⟨b, 0, none⟩), .int .i64 2] W (VlRet w0 W b h r2 lA lc sv (.int .i64 y)) by have := pop_any 2 H (by omega); rw [hr2e, hy] at this; exact this)
  clear hr2e hy
  have HC := Lib.hid (fun w => comp_any 29 y x w)
  obtain ⟨n, hn⟩ : ∃ n, compV 29 y x = n := ⟨_, rfl⟩
  obtain ⟨u, hu⟩ : ∃ u, compE 29 x = u := ⟨_, rfl⟩
  rw [hn, hu] at HC HS
  clear hn
  have hu0 : u = 0 := hu.symm.trans (by rfl)
  rw [hu0] at HC HS
  clear hu hu0
  go_enter Try.func19, Try.ntmps19
  go_wp2_with (first | (first | (go_at_call 28; refine (HP2.out _ _ hr2).mono ?_; rintro e w3 ⟨rfl, sv3, hr3, hk3, hl3⟩) | (go_at_call 28; refine HP.out.mono ?_; rintro e w2 ⟨rfl, sv2, hr2, hk2, hl2⟩)) | (go_at_call 31; refine (HC.out _).mono ?_; rintro e w5 ⟨rfl, rfl⟩) | (go_at_call 33; refine (push_any hr3 2 n (by omega)).mono ?_; rintro e w4 hr4; have HR := Lib.hid hr4; obtain ⟨rfl, _⟩ := hr4))
  go_end0
  rw [HS.out, show errS 0 r2 = r2 from rfl]
  exact StRet.then_ (hk2.trans hl2 hk3) (hl2.trans hk2.size hl3) HR.out
set_option maxRecDepth 100000 in
set_option maxHeartbeats 1000000 in
theorem comp_30 {w0 W : World} {b : Nat} {h : Hd8} {r : Rs} {lA : Option Addr} {lc : Nat} {sv : Value} (H : RunSt w0 W b h r lA lc sv) (hl : r.ss.length ≤ 900000) :
    Calls Try.prog 19 #[.pointer (some ⟨b, 0, none⟩), .int .i64 30] W (StRet w0 W b h (compS 30 r) lA lc sv) := by
  have HP := Lib.hid (pop_any 2 H (by omega))
  have hs1 := popS_ss 2 r
  have HS := Lib.hid (show compS 30 r = pushS 2 (compV 30 (topV (popS 2 r).ss).2 (topV r.ss).2) (errS (compE 30 (topV r.ss).2) (popS 2 (popS 2 r))) from rfl)
  obtain ⟨r1, hr1⟩ : ∃ r1, popS 2 r = r1 := ⟨_, rfl⟩
  obtain ⟨x, hx⟩ : ∃ x, (topV r.ss).2 = x := ⟨_, rfl⟩
  rw [hr1, hx] at HP HS
  rw [hr1] at hs1
  have hs2 := popS_ss 2 r1
  clear hx hr1 H
  obtain ⟨r2, hr2e⟩ : ∃ r2, popS 2 r1 = r2 := ⟨_, rfl⟩
  obtain ⟨y, hy⟩ : ∃ y, (topV r1.ss).2 = y := ⟨_, rfl⟩
  rw [hr2e, hy] at HS
  rw [hr2e] at hs2
  have HP2 := Lib.hid (fun (W : World) (sv : Value) (H : RunSt w0 W b h r1 lA lc sv) => show Calls Try.prog 28 #[.pointer (some ⟨b, 0, none⟩), .int .i64 2] W (VlRet w0 W b h r2 lA lc sv (.int .i64 y)) by have := pop_any 2 H (by omega); rw [hr2e, hy] at this; exact this)
  clear hr2e hy
  have HC := Lib.hid (fun w => comp_any 30 y x w)
  obtain ⟨n, hn⟩ : ∃ n, compV 30 y x = n := ⟨_, rfl⟩
  obtain ⟨u, hu⟩ : ∃ u, compE 30 x = u := ⟨_, rfl⟩
  rw [hn, hu] at HC HS
  clear hn
  clear hu
  by_cases hu : u = 0
  · subst hu
    go_enter Try.func19, Try.ntmps19
    go_wp2_with (first | (first | (go_at_call 28; refine (HP2.out _ _ hr2).mono ?_; rintro e w3 ⟨rfl, sv3, hr3, hk3, hl3⟩) | (go_at_call 28; refine HP.out.mono ?_; rintro e w2 ⟨rfl, sv2, hr2, hk2, hl2⟩)) | (go_at_call 31; refine (HC.out _).mono ?_; rintro e w5 ⟨rfl, rfl⟩) | (go_at_call 33; refine (push_any hr3 2 n (by omega)).mono ?_; rintro e w4 hr4; have HR := Lib.hid hr4; obtain ⟨rfl, _⟩ := hr4))
    go_end0
    rw [HS.out, show errS 0 r2 = r2 from rfl]
    exact StRet.then_ (hk2.trans hl2 hk3) (hl2.trans hk2.size hl3) HR.out
  · have hue : (u == 0) = false := by simpa using hu
    have HU := Lib.hid (show errS u r2 = failS u r2 from if_neg hu)
    clear hu
    go_enter Try.func19, Try.ntmps19
    go_wp2_with (first | (first | (go_at_call 28; refine (HP2.out _ _ hr2).mono ?_; rintro e w3 ⟨rfl, sv3, hr3, hk3, hl3⟩) | (go_at_call 28; refine HP.out.mono ?_; rintro e w2 ⟨rfl, sv2, hr2, hk2, hl2⟩)) | (go_at_call 31; refine (HC.out _).mono ?_; rintro e w5 ⟨rfl, rfl⟩) | (go_at_call 32; refine (fail_any hr3 u).mono ?_; rintro e w6 ⟨rfl, sv6, hr6, hk6, hl6⟩) | (go_at_call 33; refine (push_any hr6 2 n (by rw [failS_ss]; omega)).mono ?_; rintro e w4 hr4; have HR := Lib.hid hr4; obtain ⟨rfl, _⟩ := hr4))
    go_end0
    rw [HS.out, HU.out]
    exact StRet.then_ ((hk2.trans hl2 hk3).trans (hl2.trans hk2.size hl3) hk6) ((hl2.trans hk2.size hl3).trans (hk2.trans hl2 hk3).size hl6) HR.out
set_option maxRecDepth 100000 in
set_option maxHeartbeats 1000000 in
theorem comp_31 {w0 W : World} {b : Nat} {h : Hd8} {r : Rs} {lA : Option Addr} {lc : Nat} {sv : Value} (H : RunSt w0 W b h r lA lc sv) (hl : r.ss.length ≤ 900000) :
    Calls Try.prog 19 #[.pointer (some ⟨b, 0, none⟩), .int .i64 31] W (StRet w0 W b h (compS 31 r) lA lc sv) := by
  have HP := Lib.hid (pop_any 2 H (by omega))
  have hs1 := popS_ss 2 r
  have HS := Lib.hid (show compS 31 r = pushS 2 (compV 31 (topV (popS 2 r).ss).2 (topV r.ss).2) (errS (compE 31 (topV r.ss).2) (popS 2 (popS 2 r))) from rfl)
  obtain ⟨r1, hr1⟩ : ∃ r1, popS 2 r = r1 := ⟨_, rfl⟩
  obtain ⟨x, hx⟩ : ∃ x, (topV r.ss).2 = x := ⟨_, rfl⟩
  rw [hr1, hx] at HP HS
  rw [hr1] at hs1
  have hs2 := popS_ss 2 r1
  clear hx hr1 H
  obtain ⟨r2, hr2e⟩ : ∃ r2, popS 2 r1 = r2 := ⟨_, rfl⟩
  obtain ⟨y, hy⟩ : ∃ y, (topV r1.ss).2 = y := ⟨_, rfl⟩
  rw [hr2e, hy] at HS
  rw [hr2e] at hs2
  have HP2 := Lib.hid (fun (W : World) (sv : Value) (H : RunSt w0 W b h r1 lA lc sv) => show Calls Try.prog 28 #[.pointer (some ⟨b, 0, none⟩), .int .i64 2] W (VlRet w0 W b h r2 lA lc sv (.int .i64 y)) by have := pop_any 2 H (by omega); rw [hr2e, hy] at this; exact this)
  clear hr2e hy
  have HC := Lib.hid (fun w => comp_any 31 y x w)
  obtain ⟨n, hn⟩ : ∃ n, compV 31 y x = n := ⟨_, rfl⟩
  obtain ⟨u, hu⟩ : ∃ u, compE 31 x = u := ⟨_, rfl⟩
  rw [hn, hu] at HC HS
  clear hn
  clear hu
  by_cases hu : u = 0
  · subst hu
    go_enter Try.func19, Try.ntmps19
    go_wp2_with (first | (first | (go_at_call 28; refine (HP2.out _ _ hr2).mono ?_; rintro e w3 ⟨rfl, sv3, hr3, hk3, hl3⟩) | (go_at_call 28; refine HP.out.mono ?_; rintro e w2 ⟨rfl, sv2, hr2, hk2, hl2⟩)) | (go_at_call 31; refine (HC.out _).mono ?_; rintro e w5 ⟨rfl, rfl⟩) | (go_at_call 33; refine (push_any hr3 2 n (by omega)).mono ?_; rintro e w4 hr4; have HR := Lib.hid hr4; obtain ⟨rfl, _⟩ := hr4))
    go_end0
    rw [HS.out, show errS 0 r2 = r2 from rfl]
    exact StRet.then_ (hk2.trans hl2 hk3) (hl2.trans hk2.size hl3) HR.out
  · have hue : (u == 0) = false := by simpa using hu
    have HU := Lib.hid (show errS u r2 = failS u r2 from if_neg hu)
    clear hu
    go_enter Try.func19, Try.ntmps19
    go_wp2_with (first | (first | (go_at_call 28; refine (HP2.out _ _ hr2).mono ?_; rintro e w3 ⟨rfl, sv3, hr3, hk3, hl3⟩) | (go_at_call 28; refine HP.out.mono ?_; rintro e w2 ⟨rfl, sv2, hr2, hk2, hl2⟩)) | (go_at_call 31; refine (HC.out _).mono ?_; rintro e w5 ⟨rfl, rfl⟩) | (go_at_call 32; refine (fail_any hr3 u).mono ?_; rintro e w6 ⟨rfl, sv6, hr6, hk6, hl6⟩) | (go_at_call 33; refine (push_any hr6 2 n (by rw [failS_ss]; omega)).mono ?_; rintro e w4 hr4; have HR := Lib.hid hr4; obtain ⟨rfl, _⟩ := hr4))
    go_end0
    rw [HS.out, HU.out]
    exact StRet.then_ ((hk2.trans hl2 hk3).trans (hl2.trans hk2.size hl3) hk6) ((hl2.trans hk2.size hl3).trans (hk2.trans hl2 hk3).size hl6) HR.out
set_option maxRecDepth 100000 in
set_option maxHeartbeats 1000000 in
theorem comp_32 {w0 W : World} {b : Nat} {h : Hd8} {r : Rs} {lA : Option Addr} {lc : Nat} {sv : Value} (H : RunSt w0 W b h r lA lc sv) (hl : r.ss.length ≤ 900000) :
    Calls Try.prog 19 #[.pointer (some ⟨b, 0, none⟩), .int .i64 32] W (StRet w0 W b h (compS 32 r) lA lc sv) := by
  have HP := Lib.hid (pop_any 2 H (by omega))
  have hs1 := popS_ss 2 r
  have HS := Lib.hid (show compS 32 r = pushS 2 (compV 32 (topV r.ss).2 0) (errS (compE 32 0) (popS 2 r)) from rfl)
  obtain ⟨r1, hr1⟩ : ∃ r1, popS 2 r = r1 := ⟨_, rfl⟩
  obtain ⟨x, hx⟩ : ∃ x, (topV r.ss).2 = x := ⟨_, rfl⟩
  rw [hr1, hx] at HP HS
  rw [hr1] at hs1
  clear hx hr1 H
  have HC := Lib.hid (fun w => comp_any 32 x 0 w)
  obtain ⟨n, hn⟩ : ∃ n, compV 32 x 0 = n := ⟨_, rfl⟩
  obtain ⟨u, hu⟩ : ∃ u, compE 32 0 = u := ⟨_, rfl⟩
  rw [hn, hu] at HC HS
  clear hn
  have hu0 : u = 0 := hu.symm.trans (by rfl)
  rw [hu0] at HC HS
  clear hu hu0
  have hp2 := HP
  go_enter Try.func19, Try.ntmps19
  go_wp2_with (first | ((go_at_call 28; refine HP.out.mono ?_; rintro e w2 ⟨rfl, sv2, hr2, hk2, hl2⟩)) | (go_at_call 31; refine (HC.out _).mono ?_; rintro e w5 ⟨rfl, rfl⟩) | (go_at_call 33; refine (push_any hr2 2 n (by omega)).mono ?_; rintro e w4 hr4; have HR := Lib.hid hr4; obtain ⟨rfl, _⟩ := hr4))
  go_end0
  rw [HS.out, show errS 0 r1 = r1 from rfl]
  exact StRet.then_ (hk2) (hl2) HR.out
set_option maxRecDepth 100000 in
set_option maxHeartbeats 1000000 in
theorem comp_33 {w0 W : World} {b : Nat} {h : Hd8} {r : Rs} {lA : Option Addr} {lc : Nat} {sv : Value} (H : RunSt w0 W b h r lA lc sv) (hl : r.ss.length ≤ 900000) :
    Calls Try.prog 19 #[.pointer (some ⟨b, 0, none⟩), .int .i64 33] W (StRet w0 W b h (compS 33 r) lA lc sv) := by
  have HP := Lib.hid (pop_any 2 H (by omega))
  have hs1 := popS_ss 2 r
  have HS := Lib.hid (show compS 33 r = pushS 1 (compV 33 (topV (popS 2 r).ss).2 (topV r.ss).2) (errS (compE 33 (topV r.ss).2) (popS 2 (popS 2 r))) from rfl)
  obtain ⟨r1, hr1⟩ : ∃ r1, popS 2 r = r1 := ⟨_, rfl⟩
  obtain ⟨x, hx⟩ : ∃ x, (topV r.ss).2 = x := ⟨_, rfl⟩
  rw [hr1, hx] at HP HS
  rw [hr1] at hs1
  have hs2 := popS_ss 2 r1
  clear hx hr1 H
  obtain ⟨r2, hr2e⟩ : ∃ r2, popS 2 r1 = r2 := ⟨_, rfl⟩
  obtain ⟨y, hy⟩ : ∃ y, (topV r1.ss).2 = y := ⟨_, rfl⟩
  rw [hr2e, hy] at HS
  rw [hr2e] at hs2
  have HP2 := Lib.hid (fun (W : World) (sv : Value) (H : RunSt w0 W b h r1 lA lc sv) => show Calls Try.prog 28 #[.pointer (some ⟨b, 0, none⟩), .int .i64 2] W (VlRet w0 W b h r2 lA lc sv (.int .i64 y)) by have := pop_any 2 H (by omega); rw [hr2e, hy] at this; exact this)
  clear hr2e hy
  have HC := Lib.hid (fun w => comp_any 33 y x w)
  obtain ⟨n, hn⟩ : ∃ n, compV 33 y x = n := ⟨_, rfl⟩
  obtain ⟨u, hu⟩ : ∃ u, compE 33 x = u := ⟨_, rfl⟩
  rw [hn, hu] at HC HS
  clear hn
  have hu0 : u = 0 := hu.symm.trans (by rfl)
  rw [hu0] at HC HS
  clear hu hu0
  go_enter Try.func19, Try.ntmps19
  go_wp2_with (first | (first | (go_at_call 28; refine (HP2.out _ _ hr2).mono ?_; rintro e w3 ⟨rfl, sv3, hr3, hk3, hl3⟩) | (go_at_call 28; refine HP.out.mono ?_; rintro e w2 ⟨rfl, sv2, hr2, hk2, hl2⟩)) | (go_at_call 31; refine (HC.out _).mono ?_; rintro e w5 ⟨rfl, rfl⟩) | (go_at_call 33; refine (push_any hr3 1 n (by omega)).mono ?_; rintro e w4 hr4; have HR := Lib.hid hr4; obtain ⟨rfl, _⟩ := hr4))
  go_end0
  rw [HS.out, show errS 0 r2 = r2 from rfl]
  exact StRet.then_ (hk2.trans hl2 hk3) (hl2.trans hk2.size hl3) HR.out
set_option maxRecDepth 100000 in
set_option maxHeartbeats 1000000 in
theorem comp_34 {w0 W : World} {b : Nat} {h : Hd8} {r : Rs} {lA : Option Addr} {lc : Nat} {sv : Value} (H : RunSt w0 W b h r lA lc sv) (hl : r.ss.length ≤ 900000) :
    Calls Try.prog 19 #[.pointer (some ⟨b, 0, none⟩), .int .i64 34] W (StRet w0 W b h (compS 34 r) lA lc sv) := by
  have HP := Lib.hid (pop_any 1 H (by omega))
  have hs1 := popS_ss 1 r
  have HS := Lib.hid (show compS 34 r = pushS 2 (compV 34 (topV r.ss).2 0) (errS (compE 34 0) (popS 1 r)) from rfl)
  obtain ⟨r1, hr1⟩ : ∃ r1, popS 1 r = r1 := ⟨_, rfl⟩
  obtain ⟨x, hx⟩ : ∃ x, (topV r.ss).2 = x := ⟨_, rfl⟩
  rw [hr1, hx] at HP HS
  rw [hr1] at hs1
  clear hx hr1 H
  have HC := Lib.hid (fun w => comp_any 34 x 0 w)
  obtain ⟨n, hn⟩ : ∃ n, compV 34 x 0 = n := ⟨_, rfl⟩
  obtain ⟨u, hu⟩ : ∃ u, compE 34 0 = u := ⟨_, rfl⟩
  rw [hn, hu] at HC HS
  clear hn
  have hu0 : u = 0 := hu.symm.trans (by rfl)
  rw [hu0] at HC HS
  clear hu hu0
  have hp2 := HP
  go_enter Try.func19, Try.ntmps19
  go_wp2_with (first | ((go_at_call 28; refine HP.out.mono ?_; rintro e w2 ⟨rfl, sv2, hr2, hk2, hl2⟩)) | (go_at_call 31; refine (HC.out _).mono ?_; rintro e w5 ⟨rfl, rfl⟩) | (go_at_call 33; refine (push_any hr2 2 n (by omega)).mono ?_; rintro e w4 hr4; have HR := Lib.hid hr4; obtain ⟨rfl, _⟩ := hr4))
  go_end0
  rw [HS.out, show errS 0 r1 = r1 from rfl]
  exact StRet.then_ (hk2) (hl2) HR.out
set_option maxRecDepth 100000 in
set_option maxHeartbeats 1000000 in
theorem comp_35 {w0 W : World} {b : Nat} {h : Hd8} {r : Rs} {lA : Option Addr} {lc : Nat} {sv : Value} (H : RunSt w0 W b h r lA lc sv) (hl : r.ss.length ≤ 900000) :
    Calls Try.prog 19 #[.pointer (some ⟨b, 0, none⟩), .int .i64 35] W (StRet w0 W b h (compS 35 r) lA lc sv) := by
  have HP := Lib.hid (pop_any 2 H (by omega))
  have hs1 := popS_ss 2 r
  have HS := Lib.hid (show compS 35 r = pushS 1 (compV 35 (topV r.ss).2 0) (errS (compE 35 0) (popS 2 r)) from rfl)
  obtain ⟨r1, hr1⟩ : ∃ r1, popS 2 r = r1 := ⟨_, rfl⟩
  obtain ⟨x, hx⟩ : ∃ x, (topV r.ss).2 = x := ⟨_, rfl⟩
  rw [hr1, hx] at HP HS
  rw [hr1] at hs1
  clear hx hr1 H
  have HC := Lib.hid (fun w => comp_any 35 x 0 w)
  obtain ⟨n, hn⟩ : ∃ n, compV 35 x 0 = n := ⟨_, rfl⟩
  obtain ⟨u, hu⟩ : ∃ u, compE 35 0 = u := ⟨_, rfl⟩
  rw [hn, hu] at HC HS
  clear hn
  have hu0 : u = 0 := hu.symm.trans (by rfl)
  rw [hu0] at HC HS
  clear hu hu0
  have hp2 := HP
  go_enter Try.func19, Try.ntmps19
  go_wp2_with (first | ((go_at_call 28; refine HP.out.mono ?_; rintro e w2 ⟨rfl, sv2, hr2, hk2, hl2⟩)) | (go_at_call 31; refine (HC.out _).mono ?_; rintro e w5 ⟨rfl, rfl⟩) | (go_at_call 33; refine (push_any hr2 1 n (by omega)).mono ?_; rintro e w4 hr4; have HR := Lib.hid hr4; obtain ⟨rfl, _⟩ := hr4))
  go_end0
  rw [HS.out, show errS 0 r1 = r1 from rfl]
  exact StRet.then_ (hk2) (hl2) HR.out
theorem compute_any {w0 W : World} {b : Nat} {h : Hd8} {r : Rs} {lA : Option Addr} {lc : Nat} {sv : Value} (H : RunSt w0 W b h r lA lc sv) (hl : r.ss.length ≤ 900000) {op : Int} (ho : 15 ≤ op ∧ op ≤ 35) :
    Calls Try.prog 19 #[.pointer (some ⟨b, 0, none⟩), .int .i64 op] W (StRet w0 W b h (compS op r) lA lc sv) := by
  have hc : op = 15 ∨ op = 16 ∨ op = 17 ∨ op = 18 ∨ op = 19 ∨ op = 20 ∨ op = 21 ∨ op = 22 ∨ op = 23 ∨ op = 24 ∨ op = 25 ∨ op = 26 ∨ op = 27 ∨ op = 28 ∨ op = 29 ∨ op = 30 ∨ op = 31 ∨ op = 32 ∨ op = 33 ∨ op = 34 ∨ op = 35 := by omega
  rcases hc with e | e | e | e | e | e | e | e | e | e | e | e | e | e | e | e | e | e | e | e | e <;> subst e
  · exact comp_15 H hl
  · exact comp_16 H hl
  · exact comp_17 H hl
  · exact comp_18 H hl
  · exact comp_19 H hl
  · exact comp_20 H hl
  · exact comp_21 H hl
  · exact comp_22 H hl
  · exact comp_23 H hl
  · exact comp_24 H hl
  · exact comp_25 H hl
  · exact comp_26 H hl
  · exact comp_27 H hl
  · exact comp_28 H hl
  · exact comp_29 H hl
  · exact comp_30 H hl
  · exact comp_31 H hl
  · exact comp_32 H hl
  · exact comp_33 H hl
  · exact comp_34 H hl
  · exact comp_35 H hl

end Go.Proofs.Ytgiglbjkijlchaa
