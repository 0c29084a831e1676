/- Layer 53: the reference's Same answers true on the same tokens. -/
import Derived.Test.YtfpdnhbbbadegaaDoorYv
namespace Go.Proofs.YtfpdnhbbbadegaaDoor
open Go.ChangeShapes Go.WideShapes Go.ChangeAt Go.RowKit Go.PlainAid
set_option linter.unusedSimpArgs false
set_option linter.unusedVariables false

theorem same_len {L L' : List Tk} (h : SameT L L') : L.length = L'.length := by
  have := congrArg List.length h
  simpa using this
theorem same_at {L L' : List Tk} (h : SameT L L') {k : Nat} {t u : Tk} (ht : L[k]? = some t) (hu : L'[k]? = some u) : t.k = u.k ∧ t.s = u.s ∧ t.n = u.n := by
  have := congrArg (fun x => x[k]?) h
  simp only [List.getElem?_map, ht, hu, Option.map_some] at this
  injection this with this
  injection this with h1 h2
  injection h2 with h2 h3
  exact ⟨h1, h2, h3⟩
set_option maxRecDepth 100000 in
set_option maxHeartbeats 2000000 in
theorem same_yes {w : World} {A A2 : Option Addr} {n n2 c c2 : Nat} {L L2 : List Tk} (h1 : TkR w A n L) (h2 : TkR w A2 n2 L2) (hs : SameT L L2) (hb : n ≤ 9223372036854775807) :
    Calls Tryd.prog 10 #[.slice A n c, .slice A2 n2 c2] w fun e w' => e = .returned (.bool true) ∧ ∃ q, w' = w.drewN q := by
  have H1 := Lib.hid h1
  have H2 := Lib.hid h2
  have HS := Lib.hid hs
  obtain rfl : n = n2 := by rw [← h1.len, ← h2.len]; exact same_len hs
  clear h1 h2 hs
  go_enter Tryd.func10, Tryd.ntmps10
  go_wp2
  go_loopw [5] (fun x wr => ∃ k q : Nat, k ≤ n ∧ x = .int .i64 k ∧ wr = w.drewN q) (fun x _ => n - (intOf x).toNat)
  case atStart => exact ⟨0, 0, Nat.zero_le _, rfl, rfl⟩
  case round =>
    obtain ⟨k, q, hk, rfl, rfl⟩ := hrel
    by_cases hlt : k < n
    · obtain ⟨t, g, o, e1, rfl, hg, a0, a1, a2, a3⟩ := H1.out.get hlt
      obtain ⟨u, g2, o2, e2, rfl, hg2, b0, b1, b2, b3⟩ := H2.out.get hlt
      obtain ⟨s0, s1, s2⟩ := same_at HS.out e1 e2
      rw [← s0] at b0
      rw [← s1] at b1
      rw [← s2] at b2
      have hk0 : (0 : Int) ≤ (k : Int) := by omega
      have hk1 : (k : Int) < (n : Int) := by omega
      clear s0 s1 s2 e1 e2 a3 b3
      go_wp2
      go_quiet (fail)
      go_wp2
      exact ⟨⟨k + 1, _, hlt, by go_num, rfl⟩, by simp [intOf]; omega⟩
    · obtain ⟨rfl⟩ : n = k := by omega
      go_wp2
      go_ret
      exact ⟨rfl, _, rfl⟩

end Go.Proofs.YtfpdnhbbbadegaaDoor
