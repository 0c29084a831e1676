/- Layer 8: the reader's number. -/
import Derived.Test.YtpghkdmljanncaaOctRefTwo
import Derived.Test.YtpghkdmljanncaaRow
namespace Go.Proofs.Ytpghkdmljanncaa
open Go.ChangeShapes Go.WideShapes Go.ChangeAt Go.RowKit Go.PlainAid
set_option linter.unusedSimpArgs false
set_option linter.unusedVariables false

/-- what a reader reads -/
def rdV (s : ByteArray) (p z : Int) (sg : Bool) : Int := if sg = true then sigV s p z else unsV s p z
/-- is it there -/
def rdB (s : ByteArray) (p z : Int) : Bool := decide (unsE s p z = 0)
theorem uns_min (s : ByteArray) (p z : Int) (h0 : 0 ≤ p) : unsV s (min p s.size) z = unsV s p z ∧ (unsE s (min p s.size) z = 0 ↔ unsE s p z = 0) := by
  by_cases h : p ≤ s.size
  · rw [Int.min_eq_left h]; exact ⟨rfl, Iff.rfl⟩
  · rw [Int.min_eq_right (by omega)]
    have e1 : unsE s p z ≠ 0 := by
      unfold unsE
      by_cases hz : okSize z
      · rw [if_neg (by simpa using hz), if_pos (by omega)]; decide
      · rw [if_pos hz]; decide
    have e2 : unsE s s.size z ≠ 0 := by
      unfold unsE
      by_cases hz : okSize z
      · rw [if_neg (by simpa using hz), if_neg (by omega), if_pos (by unfold okSize at hz; omega)]; decide
      · rw [if_pos hz]; decide
    exact ⟨by unfold unsV; rw [if_neg e1, if_neg e2], ⟨fun h => absurd h e2, fun h => absurd h e1⟩⟩
theorem grown_set {w : World} {g j : Nat} {u : Value} : w.grownBy (w.setCell ⟨g, j, none⟩ u) (some g) :=
  ⟨rfl, rfl, rfl, by simp, fun k _ hk => heap_setCell_other w ⟨g, j, none⟩ k u (fun e => hk (by simp [e]))⟩
theorem grown_trans {w w1 w2 : World} {r : Option Nat} (h : w.grownBy w1 r) (k : w1.grownBy w2 r) : w.grownBy w2 r :=
  ⟨k.os.trans h.os, k.tape.trans h.tape, k.output.trans h.output, Nat.le_trans h.size k.size, fun i hi hr => (k.block i (Nat.lt_of_lt_of_le hi h.size) hr).trans (h.block i hi hr)⟩
theorem grown_dr {w w' : World} {q : Nat} {r : Option Nat} (h : (w.drewN q).grownBy w' r) : w.grownBy w' r := ⟨h.os, h.tape, h.output, h.size, h.block⟩
/-- a reader in memory -/
def Rd (w : World) (g : Nat) (s : ByteArray) (p : Int) (sh : Bool) : Prop := w.heap[g]? = some (.cells #[.string s, .int .i64 p, .bool sh] 98)
def NumRet (W : World) (g : Nat) (s : ByteArray) (p z : Int) (sg sh : Bool) (e : Ending) (w' : World) : Prop :=
  e = .returned (.int .i64 (rdV s p z sg)) ∧ Rd w' g s (p + z) (sh || !rdB s p z) ∧ W.grownBy w' (some g)
theorem num_end {W : World} {g q : Nat} {s : ByteArray} {p p' z : Int} {sg sh sh' : Bool} {v : Int} (h : Rd W g s p sh) (hv : v = rdV s p z sg) (hp : p' = p + z) (hs : sh' = (sh || !rdB s p z)) :
    NumRet W g s p z sg sh (.returned (.int .i64 v)) (((W.drewN q).setCell ⟨g, 2, none⟩ (.bool sh')).setCell ⟨g, 1, none⟩ (.int .i64 p')) := by
  subst hv hp hs
  have h1 := heap_setCell_same (W.drewN q) g 2 _ _ (.bool (sh || !rdB s p z)) h
  have h2 := heap_setCell_same _ g 1 _ _ (.int .i64 (p + z)) h1
  exact ⟨rfl, h2, grown_dr (grown_trans grown_set grown_set)⟩

set_option maxRecDepth 100000 in
set_option maxHeartbeats 2000000 in
theorem number_any (g : Nat) (s : ByteArray) (p z : Int) (sg sh : Bool) (W : World) (h : Rd W g s p sh) (h0 : 0 ≤ p) (h1 : p ≤ 1000000) (hz0 : 0 ≤ z) (hz : z ≤ 8) (hs : s.size ≤ 1000000) :
    Calls Try.prog 92 #[.pointer (some ⟨g, 0, none⟩), .int .i64 z, .bool sg] W (NumRet W g s p z sg sh) := by
  obtain ⟨c0, c1, c2, f0, f1, f2⟩ := three_cells h
  have HR := Lib.hid h
  have hm := uns_min s p z h0
  have hw : IntKind.i64.wrap (p + z) = p + z := by simp [IntKind.wrap, IntKind.bits, IntKind.signed]; omega
  clear h
  obtain ⟨m, hmm⟩ : ∃ m : Int, (if (s.size : Int) < p then (s.size : Int) else p) = m := ⟨_, rfl⟩
  have hmin : min p (s.size : Int) = m := by rw [← hmm]; split <;> omega
  rw [hmin] at hm
  obtain ⟨x, hx⟩ : ∃ x, unsE s m z = x := ⟨_, rfl⟩
  obtain ⟨y, hy⟩ : ∃ y, unsV s m z = y := ⟨_, rfl⟩
  have HU := Lib.hid (fun w => (uns_any s m z (by omega) w).mono (fun _ _ h => And.intro h.1 h.2.symm))
  rw [hx, hy] at HU
  rw [hx, hy] at hm
  have HM := Lib.hid hm
  clear hx hy hmin hm
  by_cases hx0 : x = 0
  · subst hx0
    have HB := Lib.hid (show rdB s p z = true from decide_eq_true (HM.out.2.1 rfl))
    cases sg with
    | false =>
      have HV := Lib.hid (show rdV s p z false = y from HM.out.1.symm)
      by_cases hlt : (s.size : Int) < p
      all_goals
        first | rw [if_pos hlt] at hmm | rw [if_neg hlt] at hmm
        subst hmm
        go_enter Try.func92, Try.ntmps92
        go_wp2
        go_quiet ((go_at_call 103; exact Calls.quiet_of_same (HU.out _)))
        go_wp2
        all_goals go_ret
        all_goals exact num_end HR.out (by rw [HV.out]) rfl (by rw [HB.out]; simp_all)
    | true =>
      have HV := Lib.hid (show rdV s p z true = sigV s p z from rfl)
      have HU2 := Lib.hid (fun w => (sig_any s p z (by omega) w).mono (fun _ _ h => And.intro h.1 h.2.symm))
      rw [HM.out.2.1 rfl] at HU2
      by_cases hlt : (s.size : Int) < p
      all_goals
        first | rw [if_pos hlt] at hmm | rw [if_neg hlt] at hmm
        subst hmm
        go_enter Try.func92, Try.ntmps92
        go_wp2
        go_quiet ((go_at_call 103; exact Calls.quiet_of_same (HU.out _)))
        go_wp2
        go_quiet ((go_at_call 104; exact (HU2.out _).mono fun _ _ h => ⟨h.1, _, h.2⟩))
        go_wp2
        all_goals go_ret
        all_goals exact num_end HR.out (by rw [HV.out]) rfl (by rw [HB.out]; simp_all)
  · have HB := Lib.hid (show rdB s p z = false from decide_eq_false (fun h => hx0 (HM.out.2.2 h)))
    have hxb := bneT' hx0
    have hxe := beqF hx0
    have HV := Lib.hid (show rdV s p z sg = y from by
      have e : unsV s p z = 0 := by unfold unsV; rw [if_neg (fun h => hx0 (HM.out.2.2 h))]
      have : y = 0 := by rw [HM.out.1, e]
      unfold rdV sigV
      rw [e, sgn_zero, this]; split <;> rfl)
    cases sg
    all_goals
      by_cases hlt : (s.size : Int) < p
      all_goals
        first | rw [if_pos hlt] at hmm | rw [if_neg hlt] at hmm
        subst hmm
        go_enter Try.func92, Try.ntmps92
        go_wp2
        go_quiet ((go_at_call 103; exact Calls.quiet_of_same (HU.out _)))
        go_wp2
        all_goals go_ret
        all_goals exact num_end HR.out (by rw [HV.out]) rfl (by rw [HB.out]; simp_all)

end Go.Proofs.Ytpghkdmljanncaa
