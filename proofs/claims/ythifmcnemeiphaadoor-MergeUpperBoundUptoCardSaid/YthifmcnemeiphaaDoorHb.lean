/- Layer 16: the functions that find a name; Lookup. -/
import Derived.Test.YthifmcnemeiphaaDoorHa
namespace Go.Proofs.YthifmcnemeiphaaDoor
open Go.ChangeShapes Go.WideShapes Go.ChangeAt Go.RowKit Go.PlainAid
set_option linter.unusedSimpArgs false
set_option linter.unusedVariables false

def FindRet (L : List CI) (s : ByteArray) (w : World) (e : Ending) (w' : World) : Prop := e = .returned (.tuple #[.int .i64 (fI L s), .bool (fB L s)]) ∧ Below w.heap.size w w'
theorem find_hit {L : List CI} {s : ByteArray} {k : Nat} (hk : k < L.length) (h1 : ∀ j (hj : j < k), ¬ (L[j]'(by omega)).nm.toList = s.toList) (h2 : L[k].nm.toList = s.toList) : fI L s = k ∧ fB L s = true := by
  have := fnd_at hk h1 h2
  unfold fI fB
  rw [this]
  exact ⟨if_pos hk, decide_eq_true hk⟩
theorem find_miss {L : List CI} {s : ByteArray} (h1 : ∀ j (hj : j < L.length), ¬ L[j].nm.toList = s.toList) : fI L s = 0 ∧ fB L s = false := by
  have := fnd_none h1
  unfold fI fB
  rw [this]
  exact ⟨if_neg (Nat.lt_irrefl _), decide_eq_false (Nat.lt_irrefl _)⟩
theorem ret_ib {k : IntKind} {a b : Int} {c d : Bool} (h : a = b) (h' : c = d) : Ending.returned (.tuple #[.int k a, .bool c]) = .returned (.tuple #[.int k b, .bool d]) := by rw [h, h']
set_option maxHeartbeats 1000000 in
theorem find1_any (A : Option Addr) (n c b : Nat) (L : List CI) (s : ByteArray) (w : World) (hb : w.cell? ⟨b, 0, none⟩ = some (.slice A n c)) (hn : L.length = n) (hc : n ≤ 9223372036854775807) (h : CIs w w.heap.size A L) :
    Calls Tryd.prog 87 #[.string s, .pointer (some ⟨b, 0, none⟩)] w (FindRet L s w) := by
  have HL := Lib.hid h
  have HN := Lib.hid hn
  clear h hn
  go_enter Tryd.func87, Tryd.ntmps87
  go_wp2
  go_loop [8] (fun i => ∃ k : Nat, k ≤ n ∧ i = .int .i64 k ∧ Hid (∀ j (hj : j < k) (hl : j < L.length), ¬ L[j].nm.toList = s.toList)) (fun i => n - (intOf i).toNat)
  case atStart => exact ⟨0, Nat.zero_le _, rfl, Lib.hid fun j hj => absurd hj (Nat.not_lt_zero _)⟩
  case round =>
    obtain ⟨k, hk, rfl, hv⟩ := hrel
    by_cases hlt : k < n
    · have hkl : k < L.length := by rw [HN.out]; exact hlt
      obtain ⟨g, o, rfl, hg, _, c0, _⟩ := HL.out.at hkl
      by_cases hq : L[k].nm.toList = s.toList
      · have HR := Lib.hid (find_hit hkl (fun j hj => hv.out j hj (by omega)) hq)
        go_wp2
        go_ret2
        exact ⟨ret_ib (by rw [HR.out.1]) HR.out.2.symm, Below.refl _ _⟩
      · have HV := Lib.hid (show ∀ j (hj : j < k + 1) (hl : j < L.length), ¬ L[j].nm.toList = s.toList from fun j hj hl => by
          rcases Nat.lt_or_ge j k with h | h
          · exact hv.out j h hl
          · obtain rfl : j = k := by omega
            exact hq)
        have hne : (L[k].nm.toList == s.toList) = false := by simpa using hq
        clear hq
        go_wp2
        go_round
        case rel => exact ⟨k + 1, by omega, by go_num, HV⟩
        case measure => simp [intOf]; omega
    · obtain rfl : k = n := by omega
      have HR := Lib.hid (find_miss (L := L) (s := s) fun j hj => hv.out j (by rw [← HN.out]; exact hj) hj)
      go_wp2
      go_ret2
      exact ⟨ret_ib (by rw [HR.out.1]; rfl) HR.out.2.symm, Below.refl _ _⟩
end Go.Proofs.YthifmcnemeiphaaDoor
