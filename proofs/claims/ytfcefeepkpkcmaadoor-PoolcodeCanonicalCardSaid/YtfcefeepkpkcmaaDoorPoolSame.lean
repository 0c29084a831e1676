/- Layer 5: the reference's Same, of two pools that read alike. -/
import Derived.Test.YtfcefeepkpkcmaaDoorPoolAdd
namespace Go.Proofs.YtfcefeepkpkcmaaDoor
open Go.ChangeShapes Go.WideShapes Go.ChangeAt Go.RowKit Go.PlainAid
set_option linter.unusedSimpArgs false
set_option linter.unusedVariables false

set_option maxHeartbeats 1000000 in
theorem same_any {w0 : World} {A A' : Option Addr} {n c c' : Nat} {L : List Cn} (hn : L.length = n) (hN : n ≤ 100000) (hp : Pool w0 w0.heap.size A L) (hp' : Pool w0 w0.heap.size A' L) (w : World) (hb : Below w0.heap.size w0 w) :
    Calls Tryd.prog 38 #[.slice A n c, .slice A' n c'] w fun e w' => e = .returned (.bool true) ∧ Below w.heap.size w w' := by
  have hB : Below w.heap.size w w := Below.refl _ _
  have HP := Lib.hid (hp.up hb)
  have HP' := Lib.hid (hp'.up hb)
  have HN := Lib.hid hn
  clear hn hp hb hp'
  go_enter Tryd.func38, Tryd.ntmps38
  go_wp2
  go_loopw [5] (fun i wr => ∃ k q : Nat, k ≤ n ∧ i = .int .i64 k ∧ wr = w.drewN q) (fun i _ => n - (intOf i).toNat)
  case atStart => exact ⟨0, 0, Nat.zero_le _, rfl, rfl⟩
  case round =>
    obtain ⟨k, q, hk, rfl, rfl⟩ := hrel
    by_cases hlt : k < n
    · have hp : ∃ p, L[k]? = some p := ⟨L[k]'(by rw [HN.out]; exact hlt), List.getElem?_eq_getElem _⟩
      obtain ⟨p, hp⟩ := hp
      rcases HP.out with h0 | ⟨b, o, rfl, hg, hcell⟩
      · rw [h0] at hp; cases hp
      · rcases HP'.out with h0 | ⟨b', o', rfl, hg', hcell'⟩
        · rw [h0] at hp; cases hp
        · obtain ⟨a0, a1, a2, a3, a4⟩ := hcell k _ hp
          obtain ⟨b0, b1, b2, b3, b4⟩ := hcell' k _ hp
          clear hcell hcell' hp
          have hk0 : (0 : Int) ≤ (k : Int) := by omega
          have hk1 : (k : Int) < (n : Int) := by omega
          have e1 := fun w => cn_neq p p w
          have e2 := cnQ_self p
          go_wp2
          go_quiet (fail)
          go_wp2
          go_roundw
          case rel => exact ⟨k + 1, _, by omega, by go_num, rfl⟩
          case measure => simp [intOf]; omega
    · obtain rfl : k = n := by omega
      go_wp2
      go_ret
      exact ⟨rfl, below_dr hB _⟩

end Go.Proofs.YtfcefeepkpkcmaaDoor
