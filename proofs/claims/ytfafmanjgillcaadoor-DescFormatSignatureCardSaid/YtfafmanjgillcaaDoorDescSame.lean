/- Layer 4: the reference's Same, of two signatures that read alike. -/
import Derived.Test.YtfafmanjgillcaaDoorDescWorks
import Derived.Deep.QuietTactic
import Derived.BigQuiet
namespace Go.Proofs.YtfafmanjgillcaaDoor
open Go.ChangeShapes Go.WideShapes Go.ChangeAt Go.RowKit Go.PlainAid
set_option linter.unusedSimpArgs false
set_option linter.unusedVariables false

theorem below_dr {w W : World} (h : Below w.heap.size w W) (q : Nat) : Below w.heap.size w (W.drewN q) := ⟨h.os, h.tape, h.output, h.size, h.block⟩

set_option maxHeartbeats 1000000 in
theorem same_nil (A A' : Option Addr) (c c' : Nat) (d b : Int) (m : ByteArray) (w : World) :
    Calls Tryd.prog 50 #[.agg #[.slice A 0 c, .int .i64 d, .int .u8 b, .string m], .agg #[.slice A' 0 c', .int .i64 d, .int .u8 b, .string m]] w fun e w' => e = .returned (.bool true) ∧ Below w.heap.size w w' := by
  have hB : Below w.heap.size w w := Below.refl _ _
  go_enter Tryd.func50, Tryd.ntmps50
  go_wp2
  go_loop [5] (fun i => i = .int .i64 0) (fun _ => 0)
  case atStart => rfl
  case round =>
    subst hrel
    go_wp2
    go_ret
    exact ⟨rfl, below_al (below_al hB _) _⟩

set_option maxHeartbeats 1000000 in
theorem same_some (g g' o o' n c c' : Nat) (ps : List Ty) (d b : Int) (m : ByteArray) (w : World) (hn : ps.length = n) (hnb : n ≤ 1000000) (hg : g < w.heap.size) (hg' : g' < w.heap.size)
    (h1 : ∀ i p, ps[i]? = some p → w.cell? ⟨g, o + i * 3, none⟩ = some (.int .i64 p.1) ∧ w.cell? ⟨g, o + i * 3 + 1, none⟩ = some (.int .u8 p.2.1) ∧ w.cell? ⟨g, o + i * 3 + 2, none⟩ = some (.string p.2.2))
    (h2 : ∀ i p, ps[i]? = some p → w.cell? ⟨g', o' + i * 3, none⟩ = some (.int .i64 p.1) ∧ w.cell? ⟨g', o' + i * 3 + 1, none⟩ = some (.int .u8 p.2.1) ∧ w.cell? ⟨g', o' + i * 3 + 2, none⟩ = some (.string p.2.2)) :
    Calls Tryd.prog 50 #[.agg #[.slice (some ⟨g, o, none⟩) n c, .int .i64 d, .int .u8 b, .string m], .agg #[.slice (some ⟨g', o', none⟩) n c', .int .i64 d, .int .u8 b, .string m]] w fun e w' => e = .returned (.bool true) ∧ Below w.heap.size w w' := by
  have hB : Below w.heap.size w w := Below.refl _ _
  have H1 := Lib.hid h1
  have H2 := Lib.hid h2
  have HN := Lib.hid hn
  clear h1 h2 hn
  go_enter Tryd.func50, Tryd.ntmps50
  go_wp2
  go_loopw [5] (fun i wr => ∃ k q : Nat, k ≤ n ∧ i = .int .i64 k ∧ wr = ((w.alloc (.cells #[.slice (some ⟨g, o, none⟩) n c, .int .i64 d, .int .u8 b, .string m] 41)).alloc (.cells #[.slice (some ⟨g', o', none⟩) n c', .int .i64 d, .int .u8 b, .string m] 41)).drewN q) (fun i _ => n - (intOf i).toNat)
  case atStart => exact ⟨0, 0, Nat.zero_le _, rfl, rfl⟩
  case round =>
    obtain ⟨k, q, hk, rfl, rfl⟩ := hrel
    by_cases hlt : k < n
    · have hp : ∃ p, ps[k]? = some p := ⟨ps[k]'(by rw [HN.out]; exact hlt), List.getElem?_eq_getElem _⟩
      obtain ⟨p, hp⟩ := hp
      obtain ⟨a0, a1, a2⟩ := H1.out k p hp
      obtain ⟨b0, b1, b2⟩ := H2.out k p hp
      clear hp
      have hk0 : (0 : Int) ≤ (k : Int) := by omega
      have hk1 : (k : Int) < (n : Int) := by omega
      go_wp2
      go_quiet (fail)
      go_wp2
      go_roundw
      case rel => exact ⟨k + 1, _, by omega, by go_num, rfl⟩
      case measure => simp [intOf]; omega
    · obtain rfl : k = n := by omega
      go_wp2
      go_ret
      exact ⟨rfl, below_dr (below_al (below_al hB _) _) _⟩

end Go.Proofs.YtfafmanjgillcaaDoor
