/- Layer 16: the reference's Texts. -/
import Derived.Test.YthifmcnemeiphaaDoorHk
import Derived.Deep.QuietTactic
import Derived.BigQuiet
namespace Go.Proofs.YthifmcnemeiphaaDoor
open Go.ChangeShapes Go.WideShapes Go.ChangeAt Go.RowKit Go.PlainAid Go.Maps
set_option linter.unusedSimpArgs false
set_option linter.unusedVariables false

def txB (P Q : List ByteArray) : Bool := decide (P = Q)
theorem nat_beq (a b : Nat) : ((a : Int) == (b : Int)) = decide (a = b) := by
  rw [Bool.eq_iff_iff, beq_iff_eq, decide_eq_true_iff]
  omega
theorem tx_diff {P Q : List ByteArray} {k : Nat} (h1 : k < P.length) (h2 : k < Q.length) (h : ¬ P[k].toList = Q[k].toList) : txB P Q = false := by
  unfold txB
  refine decide_eq_false ?_
  rintro rfl
  exact h rfl
theorem tx_end {P Q : List ByteArray} (h : ∀ j (h1 : j < P.length) (h2 : j < Q.length), P[j].toList = Q[j].toList) : txB P Q = decide (P.length = Q.length) := by
  unfold txB
  by_cases hl : P.length = Q.length
  · rw [decide_eq_true hl]
    refine decide_eq_true ?_
    apply List.ext_getElem hl
    intro j h1 h2
    exact toList_iff.1 (h j h1 h2)
  · rw [decide_eq_false hl]
    refine decide_eq_false ?_
    rintro rfl
    exact hl rfl
set_option maxRecDepth 100000 in
set_option maxHeartbeats 2000000 in
theorem texts_any (A : Option Addr) (n c : Nat) (P : List ByteArray) (A' : Option Addr) (n' c' : Nat) (Q : List ByteArray) (w : World) (hn : P.length = n) (hn' : Q.length = n') (hc : n ≤ 1000000) (hc' : n' ≤ 1000000) (h : SRow w w.heap.size A P) (h' : SRow w w.heap.size A' Q) :
    Calls Tryd.prog 27 #[.slice A n c, .slice A' n' c'] w fun e w' => e = .returned (.bool (txB P Q)) ∧ Below w.heap.size w w' := by
  have HP := Lib.hid h
  have HQ := Lib.hid h'
  have HN := Lib.hid hn
  have HN' := Lib.hid hn'
  clear h h' hn hn'
  go_enter Tryd.func27, Tryd.ntmps27
  go_wp2
  go_loopw [5] (fun i wr => ∃ k : Nat, k ≤ n ∧ k ≤ n' ∧ i = .int .i64 k ∧ Hid (Below w.heap.size w wr) ∧ Hid (∀ j (hj : j < k) (h1 : j < P.length) (h2 : j < Q.length), P[j].toList = Q[j].toList)) (fun i _ => n - (intOf i).toNat)
  case atStart => exact ⟨0, Nat.zero_le _, Nat.zero_le _, rfl, Lib.hid (Below.refl _ _), Lib.hid fun j hj => absurd hj (Nat.not_lt_zero _)⟩
  case round =>
    obtain ⟨k, hk, hk', rfl, HB, hv⟩ := hrel
    by_cases hlt : k < n
    · have hlb : decide ((k : Int) < (n : Int)) = true := decide_eq_true (by omega)
      by_cases hlt' : k < n'
      · have h1 : k < P.length := by rw [HN.out]; exact hlt
        have h2 : k < Q.length := by rw [HN'.out]; exact hlt'
        obtain ⟨g, o, rfl, hg, hcl⟩ := HP.out.at (by omega)
        obtain ⟨g', o', rfl, hg', hcl'⟩ := HQ.out.at (by omega)
        have c0 := (HB.out.cell (p := ⟨g, o + k, none⟩) hg).trans (hcl k h1)
        have c1 := (HB.out.cell (p := ⟨g', o' + k, none⟩) hg').trans (hcl' k h2)
        clear hcl hcl'
        by_cases hq : P[k].toList = Q[k].toList
        · have HV := Lib.hid (show ∀ j (hj : j < k + 1) (h1 : j < P.length) (h2 : j < Q.length), P[j].toList = Q[j].toList from fun j hj h1 h2 => by
            rcases Nat.lt_or_ge j k with h | h
            · exact hv.out j h h1 h2
            · obtain rfl : j = k := by omega
              exact hq)
          have hqb : (P[k].toList == Q[k].toList) = true := by simpa using hq
          clear hq
          go_upto_region 4 with fail
          go_quiet (fail)
          have HB2 := Lib.hid (below_dr HB.out nq)
          go_wp2
          go_roundw
          case rel => exact ⟨k + 1, by omega, by omega, by go_num, HB2, HV⟩
          case measure => simp [intOf]; omega
        · have HR := Lib.hid (tx_diff h1 h2 hq)
          have hqb : (P[k].toList == Q[k].toList) = false := by simpa using hq
          clear hq
          go_upto_region 4 with fail
          go_quiet (fail)
          have HB2 := Lib.hid (below_dr HB.out nq)
          go_wp2
          go_ret
          exact ⟨ret_bool HR.out.symm, HB2.out⟩
      · obtain rfl : k = n' := by omega
        have HR := Lib.hid (tx_end (P := P) (Q := Q) (fun j a b => hv.out j (by rw [← HN'.out]; exact b) a b))
        go_wp2
        go_ret
        exact ⟨ret_bool (by rw [HR.out, HN.out, HN'.out, nat_beq]), HB.out⟩
    · obtain rfl : k = n := by omega
      have HR := Lib.hid (tx_end (P := P) (Q := Q) (fun j a b => hv.out j (by rw [← HN.out]; exact a) a b))
      go_wp2
      go_ret
      exact ⟨ret_bool (by rw [HR.out, HN.out, HN'.out, nat_beq]), HB.out⟩
end Go.Proofs.YthifmcnemeiphaaDoor
