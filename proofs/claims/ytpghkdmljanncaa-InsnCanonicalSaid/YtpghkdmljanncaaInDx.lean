/- Layer 8: Decode, on the texts of the chapter's examples. -/
import Derived.Test.YtpghkdmljanncaaInSc
import Derived.Test.YtpghkdmljanncaaInRen
namespace Go.Proofs.Ytpghkdmljanncaa
open Go.ChangeShapes Go.WideShapes Go.ChangeAt Go.RowKit Go.PlainAid
set_option linter.unusedSimpArgs false
set_option linter.unusedVariables false

theorem one_get {i x : In} {k : Nat} (h : [i][k]? = some x) : k = 0 ∧ x = i := by
  cases k with
  | zero => exact ⟨rfl, by simpa using h.symm⟩
  | succ k => simp at h
set_option maxRecDepth 100000 in
theorem ixt_n {w : World} {base c : Nat} {A : Option Addr} {i : In} (hb : brB i.op = false) (h : w.ownsRow base 26 10 (.slice A 1 c) 1 (irow [i])) (hok : i.ok w w.heap.size) (v2 : Value) :
    Calls Try.prog 65 #[.slice A 1 c, v2] w fun e w' => e = .returned (.bool true) ∧ w = w' := by
  have HI := Lib.hid (Ins.of_own h (fun x hx => by obtain rfl := List.mem_singleton.1 hx; exact hok)).1
  have HBR := Lib.hid hb
  clear h hb hok
  go_enter Try.func65, Try.ntmps65
  go_wp2
  go_loopw [14] (fun v wr => ∃ k : Nat, k ≤ 1 ∧ v = .int .i64 k ∧ wr = w) (fun v _ => 1 - (intOf v).toNat)
  case atStart => exact ⟨0, Nat.zero_le _, rfl, rfl⟩
  case round =>
    obtain ⟨k, hk, rfl, rfl⟩ := hrel
    by_cases hlt : k < 1
    · have hp : [i][k]? = some i := by obtain rfl : k = 0 := by omega
                                       rfl
      have hk0 : (0 : Int) ≤ (k : Int) := by omega
      have hk1 : (k : Int) < 1 := by omega
      rcases HI.out with h0 | ⟨g, o, rfl, hg, hcell⟩
      · cases h0
      · obtain ⟨iok, a0, a1, a2, a3, a4, a5, a6, a7, a8, a9⟩ := hcell k _ hp
        clear hcell iok hp
        go_wp2_with (go_at_call 55; refine (br_any _ _).mono ?_; rintro e w' ⟨rfl, rfl⟩; rw [HBR.out])
        refine ⟨⟨k + 1, hlt, by go_num, trivial⟩, by simp [intOf]; omega⟩
    · obtain rfl : k = 1 := by omega
      go_wp2
      go_ret
      exact ⟨rfl, rfl⟩
set_option maxRecDepth 100000 in
theorem ixt_b {w : World} {base c c2 : Nat} {A A2 : Option Addr} {i : In} {M : List Int} (hb : brB i.op = true) (h : w.ownsRow base 26 10 (.slice A 1 c) 1 (irow [i])) (hok : i.ok w w.heap.size) (hr : Row w w.heap.size A2 M) (hl : M.length = 1) (hm : ¬ i.t ∈ M) :
    Calls Try.prog 65 #[.slice A 1 c, .slice A2 1 c2] w fun e w' => e = .returned (.bool false) ∧ Below w.heap.size w w' := by
  have HI := Lib.hid (Ins.of_own h (fun x hx => by obtain rfl := List.mem_singleton.1 hx; exact hok)).1
  have HBR := Lib.hid hb
  have HM := Lib.hid (show decide (i.t ∈ M) = false from decide_eq_false hm)
  have hpw : M.Pairwise (· < ·) := by
    obtain ⟨x, rfl⟩ : ∃ x, M = [x] := by
      match M, hl with
      | [x], _ => exact ⟨x, rfl⟩
    exact List.pairwise_singleton _ _
  have HBS := Lib.hid (fun x => bs_any (c := c2) x hr hl (by omega) hpw)
  clear h hb hok hr hm hpw
  go_enter Try.func65, Try.ntmps65
  go_wp2
  go_loopw [14] (fun v wr => ∃ k : Nat, k < 1 ∧ v = .int .i64 k ∧ wr = w) (fun v _ => 1 - (intOf v).toNat)
  case atStart => exact ⟨0, Nat.zero_lt_one, rfl, rfl⟩
  case round =>
    obtain ⟨k, hlt, rfl, rfl⟩ := hrel
    have hp : [i][k]? = some i := by obtain rfl : k = 0 := by omega
                                     rfl
    have hk0 : (0 : Int) ≤ (k : Int) := by omega
    have hk1 : (k : Int) < 1 := by omega
    rcases HI.out with h0 | ⟨g, o, rfl, hg, hcell⟩
    · cases h0
    · obtain ⟨iok, a0, a1, a2, a3, a4, a5, a6, a7, a8, a9⟩ := hcell k _ hp
      clear hcell iok hp
      go_wp2_with (first | (go_at_call 55; refine (br_any _ _).mono ?_; rintro e w' ⟨rfl, rfl⟩; rw [HBR.out]) | (go_at_call 59; refine (HBS.out _).mono ?_; rintro e w' ⟨rfl, q, rfl⟩; rw [HM.out]))
      go_ret
      exact ⟨rfl, below_dr (Below.refl _ _) _⟩

theorem ciA : ciE (inP 0 0 0 0) = 0 := by kernel_rfl
set_option maxRecDepth 100000 in
theorem decA (s : ByteArray) (hs : s.size = 1) (hop : rdV s 0 1 false = 0) (h1 : rdB s 0 1 = true) (w : World) :
    Calls Try.prog 27 #[.string s] w fun e w' => (∃ A c, e = .returned (.tuple #[.slice A 1 c, .int .i64 0])) ∧ Below w.heap.size w w' := by
  have HSC := Lib.hid (scanA s 0 hs hop h1 (by decide) w)
  clear hop h1
  go_enter Try.func27, Try.ntmps27
  go_upto_region 4 with (go_at_call 64; refine HSC.out.mono ?_; intro e w1 hsc; unfold ScRet at hsc; rw [if_pos rfl] at hsc; obtain ⟨A, c, A2, c2, rfl, hown, hrow, hb1⟩ := hsc)
  have HI := Lib.hid (Ins.of_own hown (fun x hx => by obtain rfl := List.mem_singleton.1 hx; exact inP_ok _ _ _ _ _ _)).1
  have HIX := Lib.hid (ixt_n (w := w1) (i := inP 0 0 0 0) (by decide) hown (inP_ok _ _ _ _ _ _) (.slice A2 1 c2))
  clear hown hrow
  go_wp2_with (go_at_call 65; refine HIX.out.mono ?_; rintro e w' ⟨rfl, rfl⟩)
  go_loopw [31] (fun v wr => ∃ k : Nat, k ≤ 1 ∧ v = .int .i64 k ∧ Below w1.heap.size w1 wr) (fun v _ => 1 - (intOf v).toNat)
  case atStart => exact ⟨0, Nat.zero_le _, rfl, Below.refl _ _⟩
  case round =>
    obtain ⟨k, hk, rfl, hBr⟩ := hrel
    by_cases hlt : k < 1
    · have hp : [inP 0 0 0 0][k]? = some (inP 0 0 0 0) := by obtain rfl : k = 0 := by omega
                                                             rfl
      have hk0 : (0 : Int) ≤ (k : Int) := by omega
      have hk1 : (k : Int) < 1 := by omega
      rcases (HI.out.up hBr) with h0 | ⟨g, o, rfl, hg, hcell⟩
      · cases h0
      · obtain ⟨iok, a0, a1, a2, a3, a4, a5, a6, a7, a8, a9⟩ := hcell k _ hp
        simp only [inP] at a0 a1 a2 a3 a4 a5 a6 a7 a8 a9
        clear hcell iok
        go_wp2_with (go_at_call 16; refine (chk_any (inP 0 0 0 0) _ (inP_ok _ _ _ _ _ _)).mono ?_; rintro e w2 ⟨rfl, hb2⟩; rw [ciA])
        refine ⟨⟨k + 1, hlt, by go_num, below_on hBr (Below.trans (below_al (Below.refl _ _) _) (hb2.mono (below_al (Below.refl _ _) _).size))⟩, by simp [intOf]; omega⟩
    · obtain rfl : k = 1 := by omega
      go_wp2
      go_ret2
      exact ⟨⟨A, c, rfl⟩, below_on hb1 hBr⟩
set_option maxRecDepth 100000 in
theorem decB (s : ByteArray) (op : Int) (hs : s.size = 1) (hop : rdV s 0 1 false = op) (h1 : rdB s 0 1 = true) (hk : kindV op = 1) (h2 : rdB s 1 1 = false) (w : World) :
    Calls Try.prog 27 #[.string s] w fun e w' => (∃ A n c, e = .returned (.tuple #[.slice A n c, .int .i64 3])) ∧ Below w.heap.size w w' := by
  have HSC := Lib.hid (scanB s op hs hop h1 hk h2 w)
  clear hop h1 hk h2
  go_enter Try.func27, Try.ntmps27
  go_wp2_with (go_at_call 64; refine HSC.out.mono ?_; intro e w1 hsc; unfold ScRet at hsc; rw [if_neg (by simp)] at hsc; obtain ⟨A, n, c, A2, n2, c2, rfl, hb1⟩ := hsc)
  go_ret2
  exact ⟨⟨none, 0, 0, rfl⟩, hb1⟩
set_option maxRecDepth 100000 in
theorem decC (s : ByteArray) (op : Int) (hs : s.size = 1) (hop : rdV s 0 1 false = op) (h1 : rdB s 0 1 = true) (hk : kindV op = -1) (w : World) :
    Calls Try.prog 27 #[.string s] w fun e w' => (∃ A n c, e = .returned (.tuple #[.slice A n c, .int .i64 15])) ∧ Below w.heap.size w w' := by
  have HSC := Lib.hid (scanC s op hs hop h1 hk w)
  clear hop h1 hk
  go_enter Try.func27, Try.ntmps27
  go_wp2_with (go_at_call 64; refine HSC.out.mono ?_; intro e w1 hsc; unfold ScRet at hsc; rw [if_neg (by simp)] at hsc; obtain ⟨A, n, c, A2, n2, c2, rfl, hb1⟩ := hsc)
  go_ret2
  exact ⟨⟨none, 0, 0, rfl⟩, hb1⟩
set_option maxRecDepth 100000 in
theorem decD (s : ByteArray) (op t : Int) (hs : s.size = 3) (hop : rdV s 0 1 false = op) (h1 : rdB s 0 1 = true) (hk : kindV op = 3) (h2 : rdB s 1 2 = true) (ht : rdV s 1 2 false = t) (ht0 : t ≠ 0) (w : World) :
    Calls Try.prog 27 #[.string s] w fun e w' => (∃ A n c, e = .returned (.tuple #[.slice A n c, .int .i64 16])) ∧ Below w.heap.size w w' := by
  have HSC := Lib.hid (scanD s op hs hop h1 hk h2 t ht w)
  have HBR := Lib.hid (br_kind (o := op) (Or.inl hk))
  have HT0 := Lib.hid (show ¬ (inP op 0 0 t).t ∈ [(0 : Int)] from fun h => ht0 (List.mem_singleton.1 h))
  clear hop h1 hk h2 ht ht0
  go_enter Try.func27, Try.ntmps27
  go_upto_region 4 with (go_at_call 64; refine HSC.out.mono ?_; intro e w1 hsc; unfold ScRet at hsc; rw [if_pos rfl] at hsc; obtain ⟨A, c, A2, c2, rfl, hown, hrow, hb1⟩ := hsc)
  have HIX := Lib.hid (ixt_b (w := w1) (c2 := c2) (i := inP op 0 0 t) HBR.out hown (inP_ok _ _ _ _ _ _) hrow rfl HT0.out)
  clear hown hrow
  go_wp2_with (go_at_call 65; refine HIX.out.mono ?_; rintro e w2 ⟨rfl, hb2⟩)
  go_ret2
  exact ⟨⟨none, 0, 0, rfl⟩, below_on hb1 hb2⟩

end Go.Proofs.Ytpghkdmljanncaa
