/- Layer 19: the law's has. -/
import Derived.Test.YtpghkdmljanncaaFk
namespace Go.Proofs.Ytpghkdmljanncaa
open Go.ChangeShapes Go.WideShapes Go.ChangeAt Go.RowKit Go.PlainAid
set_option linter.unusedSimpArgs false
set_option linter.unusedVariables false
/-- is m among the first k of L? -/
def hasB (L : List Int) (m : Int) : Bool := L.any (fun x => x == m)
theorem hasB_step {L : List Int} {k : Nat} {m : Int} (hk : k < L.length) : hasB (L.take (k + 1)) m = (hasB (L.take k) m || (L.getD k 0 == m)) := by
  unfold hasB
  rw [List.take_add_one, List.any_append, List.getD_eq_getElem?_getD, List.getElem?_eq_getElem hk]
  simp
theorem hasB_hit {L : List Int} {k : Nat} {m : Int} (hk : k < L.length) (h : L.getD k 0 = m) : hasB L m = true := by
  unfold hasB
  rw [List.any_eq_true]
  refine ⟨L[k], List.getElem_mem hk, ?_⟩
  rw [List.getD_eq_getElem?_getD, List.getElem?_eq_getElem hk] at h
  simpa using h
set_option maxRecDepth 100000 in
theorem has_any {w : World} {A : Option Addr} {n c : Nat} {L : List Int} (m : Int) (h1 : Row w w.heap.size A L) (hn : L.length = n) (hb : n ≤ 9223372036854775807) :
    Calls Try.prog 45 #[.slice A n c, .int .i64 m] w fun e w' => e = .returned (.bool (hasB L m)) ∧ ∃ q, w' = w.drewN q := by
  have H1 := Lib.hid h1
  have HN := Lib.hid hn
  clear h1 hn
  go_enter Try.func45, Try.ntmps45
  go_wp2
  go_loopw [5] (fun x wr => ∃ k q : Nat, k ≤ n ∧ x = .int .i64 k ∧ wr = w.drewN q ∧ hasB (L.take k) m = false) (fun x _ => n - (intOf x).toNat)
  case atStart => exact ⟨0, 0, Nat.zero_le _, rfl, rfl, rfl⟩
  case round =>
    obtain ⟨k, q, hk, rfl, rfl, hno⟩ := hrel
    by_cases hlt : k < n
    · obtain ⟨g, o, rfl, hg, hc⟩ := H1.out.at (by rw [HN.out]; omega)
      have a1 := hc k (by rw [HN.out]; exact hlt)
      have hst := hasB_step (L := L) (k := k) (m := m) (by rw [HN.out]; exact hlt)
      have hhit := hasB_hit (L := L) (k := k) (m := m) (by rw [HN.out]; exact hlt)
      generalize L.getD k 0 = x at a1 hst hhit
      have hk0 : (0 : Int) ≤ (k : Int) := by omega
      have hk1 : (k : Int) < (n : Int) := by omega
      clear hc
      by_cases hx : x = m
      · have hv := hhit hx
        subst hx
        clear hhit hst
        go_wp2
        go_ret
        exact ⟨(by rw [hv]; rfl), _, rfl⟩
      · go_wp2
        exact ⟨⟨k + 1, _, hlt, by go_num, rfl, by rw [hst, hno]; simpa using hx⟩, by simp [intOf]; omega⟩
    · obtain ⟨rfl⟩ : n = k := by omega
      rw [← HN.out, List.take_length] at hno
      go_wp2
      go_ret
      exact ⟨(by rw [hno]; rfl), _, rfl⟩

end Go.Proofs.Ytpghkdmljanncaa
