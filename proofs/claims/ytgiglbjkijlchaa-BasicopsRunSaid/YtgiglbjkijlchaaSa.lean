/- Layer 42: equal rows, equal activations. -/
import Derived.Test.YtgiglbjkijlchaaRo
namespace Go.Proofs.Ytgiglbjkijlchaa
open Go.ChangeShapes Go.WideShapes Go.ChangeAt Go.RowKit Go.PlainAid
set_option linter.unusedSimpArgs false
set_option linter.unusedVariables false

theorem va_neq (a b : Int) (w : World) : (binOp .neq 42 (.agg #[.int .i64 a, .int .i64 b]) (.agg #[.int .i64 a, .int .i64 b])).run Try.prog w = .ok (.bool false) w := by
  simp [go_sem]
set_option maxRecDepth 100000 in
theorem sv_yes {w : World} {A A2 : Option Addr} {n c c2 : Nat} {L : List Va} (h1 : VRow w A L) (h2 : VRow w A2 L) (hn : L.length = n) (hb : n ≤ 9223372036854775807) :
    Calls Try.prog 17 #[.slice A n c, .slice A2 n c2] w fun e w' => e = .returned (.bool true) ∧ ∃ q, w' = w.drewN q := by
  have H1 := Lib.hid h1
  have H2 := Lib.hid h2
  have HN := Lib.hid hn
  clear h1 h2 hn
  go_enter Try.func17, Try.ntmps17
  go_wp2
  go_loopw [5] (fun x wr => ∃ k q : Nat, k ≤ n ∧ x = .int .i64 k ∧ wr = w.drewN q) (fun x _ => n - (intOf x).toNat)
  case atStart => exact ⟨0, 0, Nat.zero_le _, rfl, rfl⟩
  case round =>
    obtain ⟨k, q, hk, rfl, rfl⟩ := hrel
    by_cases hlt : k < n
    · obtain ⟨⟨x, y⟩, hp⟩ := get_someF (l := L) (k := k) (by rw [HN.out]; exact hlt)
      rcases H1.out with h0 | ⟨g, o, rfl, hg, hc⟩
      · rw [h0] at hp; cases hp
      rcases H2.out with h0 | ⟨g2, o2, rfl, hg2, hc2⟩
      · rw [h0] at hp; cases hp
      obtain ⟨a1, a2⟩ := hc k _ hp
      obtain ⟨b1, b2⟩ := hc2 k _ hp
      have hk0 : (0 : Int) ≤ (k : Int) := by omega
      have hk1 : (k : Int) < (n : Int) := by omega
      have hne := fun w => va_neq x y w
      dsimp only at a1 a2 b1 b2
      clear hc hc2 hp
      go_wp2
      go_quiet (fail)
      go_wp2
      exact ⟨⟨k + 1, _, hlt, by go_num, rfl⟩, by simp [intOf]; omega⟩
    · obtain ⟨rfl⟩ : n = k := by omega
      go_wp2
      go_ret
      exact ⟨rfl, _, rfl⟩
set_option maxRecDepth 100000 in
set_option maxHeartbeats 1000000 in
theorem sa_yes (cl me pc lk : Int) (ii dr : Bool) {ls ss : List Va} {lA sA lA2 sA2 : Option Addr} {n1 n2 lc sc lc2 sc2 : Nat} {w : World} (h1 : VRow w lA ls) (h2 : VRow w sA ss) (h3 : VRow w lA2 ls) (h4 : VRow w sA2 ss) (hn1 : ls.length = n1) (hn2 : ss.length = n2) (hb1 : n1 ≤ 9223372036854775807) (hb2 : n2 ≤ 9223372036854775807) :
    Calls Try.prog 12 #[.agg #[.int .i64 cl, .int .i64 me, .int .i64 pc, .slice lA n1 lc, .slice sA n2 sc, .int .i64 lk, .bool ii, .bool dr], .agg #[.int .i64 cl, .int .i64 me, .int .i64 pc, .slice lA2 n1 lc2, .slice sA2 n2 sc2, .int .i64 lk, .bool ii, .bool dr]] w fun e w' => e = .returned (.bool true) ∧ Below w.heap.size w w' := by
  have H1 := Lib.hid h1
  have H2 := Lib.hid h2
  have H3 := Lib.hid h3
  have H4 := Lib.hid h4
  have HN1 := Lib.hid hn1
  have HN2 := Lib.hid hn2
  clear h1 h2 h3 h4 hn1 hn2
  go_enter Try.func12, Try.ntmps12
  go_upto_region 1 with fail
  have R0 := laid_old (o' := (.cells #[.int .i64 cl, .int .i64 me, .int .i64 pc, .slice lA2 n1 lc2, .slice sA2 n2 sc2, .int .i64 lk, .bool ii, .bool dr] 24)) (World.alloc_heap_new w (.cells #[.int .i64 cl, .int .i64 me, .int .i64 pc, .slice lA n1 lc, .slice sA n2 sc, .int .i64 lk, .bool ii, .bool dr] 24))
  have R1 := World.alloc_heap_new (w.alloc (.cells #[.int .i64 cl, .int .i64 me, .int .i64 pc, .slice lA n1 lc, .slice sA n2 sc, .int .i64 lk, .bool ii, .bool dr] 24)) (.cells #[.int .i64 cl, .int .i64 me, .int .i64 pc, .slice lA2 n1 lc2, .slice sA2 n2 sc2, .int .i64 lk, .bool ii, .bool dr] 24)
  have hsz : (w.alloc (.cells #[.int .i64 cl, .int .i64 me, .int .i64 pc, .slice lA n1 lc, .slice sA n2 sc, .int .i64 lk, .bool ii, .bool dr] 24)).heap.size = w.heap.size + 1 := by simp
  rw [hsz] at R1
  have hB := below_al (below_al (Below.refl w.heap.size w) (.cells #[.int .i64 cl, .int .i64 me, .int .i64 pc, .slice lA n1 lc, .slice sA n2 sc, .int .i64 lk, .bool ii, .bool dr] 24)) (.cells #[.int .i64 cl, .int .i64 me, .int .i64 pc, .slice lA2 n1 lc2, .slice sA2 n2 sc2, .int .i64 lk, .bool ii, .bool dr] 24)
  generalize (w.alloc (.cells #[.int .i64 cl, .int .i64 me, .int .i64 pc, .slice lA n1 lc, .slice sA n2 sc, .int .i64 lk, .bool ii, .bool dr] 24)).alloc (.cells #[.int .i64 cl, .int .i64 me, .int .i64 pc, .slice lA2 n1 lc2, .slice sA2 n2 sc2, .int .i64 lk, .bool ii, .bool dr] 24) = W at R0 R1 hB ⊢
  obtain ⟨a0, a1, a2, a3, a4, a5, a6, a7⟩ := eight_cells R0
  obtain ⟨b0, b1, b2, b3, b4, b5, b6, b7⟩ := eight_cells R1
  have HB := Lib.hid hB
  have y0 := lt_heapV R0
  have y1 := lt_heapV R1
  clear R0 R1 hB hsz
  go_wp2_with (first | (go_at_call 17; with_reducible refine (sv_yes (H1.out.up HB.out) (H3.out.up HB.out) HN1.out hb1).mono ?_; rintro e w3 ⟨rfl, q, rfl⟩) | (go_at_call 17; with_reducible refine (sv_yes (H2.out.up (below_dr HB.out _)) (H4.out.up (below_dr HB.out _)) HN2.out hb2).mono ?_; rintro e w4 ⟨rfl, q2, rfl⟩))
  go_ret
  exact ⟨rfl, below_dr HB.out _⟩
end Go.Proofs.Ytgiglbjkijlchaa
