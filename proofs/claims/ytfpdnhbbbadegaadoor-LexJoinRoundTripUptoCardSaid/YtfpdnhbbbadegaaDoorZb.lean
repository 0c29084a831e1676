/- Layer 53: a list of tokens as an argument, opened; the law LexJoinRoundTrip. -/
import Derived.Test.YtfpdnhbbbadegaaDoorZa
import Derived.Test.YtfpdnhbbbadegaaDoorYx
import Derived.Test.YtfpdnhbbbadegaaDoorRows
namespace Go.Proofs.YtfpdnhbbbadegaaDoor
open Go.ChangeShapes Go.WideShapes Go.ChangeAt Go.RowKit Go.Deep Go.PlainAid
set_option linter.unusedSimpArgs false
set_option linter.unusedVariables false

theorem cellsTk : Tryd.prog.cellsOf 32 = 4 := by kernel_rfl
theorem cellsIZ : Tryd.prog.cellsOf 3 = 1 := by kernel_rfl
theorem cellsSZ : Tryd.prog.cellsOf 9 = 1 := by kernel_rfl
theorem i64_wf {n : Int} (h : (Lit.int .i64 n).wf = true) : -9223372036854775808 ≤ n ∧ n ≤ 9223372036854775807 := by
  simp only [Lit.wf, Bool.and_eq_true, decide_eq_true_eq] at h
  have h1 := h.1
  have h2 := h.2
  rw [show IntKind.i64.min = -9223372036854775808 from by rfl] at h1
  rw [show IntKind.i64.max = 9223372036854775807 from by rfl] at h2
  exact ⟨h1, h2⟩
theorem list4Z {α : Type} : ∀ (l : List α), l.length = 4 → ∃ a b c d, l = [a, b, c, d]
  | [a, b, c, d], _ => ⟨a, b, c, d, rfl⟩
theorem bulk_partZ {H : Type} {d : DataW H} {l : List (DataW H)} (h : d ∈ l) : Rows.uptoBulk d ≤ Rows.uptoBulkAll l := by
  induction l with
  | nil => cases h
  | cons x r ih =>
    simp only [Rows.uptoBulkAll]
    cases List.mem_cons.1 h with
    | inl e => subst e; omega
    | inr e => have := ih e; omega
section
variable {H : Type} {enc : TypeId × Value → H} {w : World} {base : Nat} {spare : Nat → Bool} {held : Bool}
set_option maxRecDepth 100000 in
theorem open_tk {fuel : Nat} {cs : List Value} {x : DataW H × List MemPlace} (h : DataW.trod enc Tryd.prog w base spare held fuel 32 cs = some x) :
    ∃ p : Tk, cs = tF p ∧ (p.s.length ≤ Rows.uptoBulk x.1 ∧ -9223372036854775808 ≤ p.n ∧ p.n ≤ 9223372036854775807) := by
  obtain ⟨xs, n, _, e, hl, hxl, hg⟩ := DataW.trod_struct Tryd.underlying32 h
  have h0 := hg 0 _ rfl
  have h1 := hg 1 _ rfl
  have h2 := hg 2 _ rfl
  have h3 := hg 3 _ rfl
  rw [cellsTk] at hl
  obtain ⟨v0, v1, v2, v3, rfl⟩ := list4Z cs hl
  obtain ⟨y0, y1, y2, y3, rfl⟩ := list4Z xs hxl
  change DataW.trod enc Tryd.prog w base spare held n 3 (List.take (Tryd.prog.cellsOf 3) [v0, v1, v2, v3]) = some y0 at h0
  change DataW.trod enc Tryd.prog w base spare held n 9 (List.take (Tryd.prog.cellsOf 9) [v1, v2, v3]) = some y1 at h1
  change DataW.trod enc Tryd.prog w base spare held n 3 (List.take (Tryd.prog.cellsOf 3) [v2, v3]) = some y2 at h2
  change DataW.trod enc Tryd.prog w base spare held n 3 (List.take (Tryd.prog.cellsOf 3) [v3]) = some y3 at h3
  rw [cellsIZ] at h0 h2 h3
  rw [cellsSZ] at h1
  obtain ⟨a0, e0, _, _⟩ := DataW.trod_int Tryd.underlying3 h0
  obtain ⟨a1, e1, d1, _⟩ := DataW.trod_string Tryd.underlying9 h1
  obtain ⟨a2, e2, _, r2⟩ := DataW.trod_int Tryd.underlying3 h2
  obtain ⟨a3, e3, _, _⟩ := DataW.trod_int Tryd.underlying3 h3
  simp at e0 e1 e2 e3
  subst e0 e1 e2 e3
  have hb : a1.size ≤ Rows.uptoBulk y1.1 := by
    rw [d1]
    simp [Rows.uptoBulk, ByteArray.toList_eq]
  refine ⟨⟨a0, a1.data.toList, a2, a3⟩, ?_, ?_, ?_⟩
  · show [Value.int .i64 a0, .string a1, .int .i64 a2, .int .i64 a3] = [Value.int .i64 a0, .string (bsB a1.data.toList), .int .i64 a2, .int .i64 a3]
    rw [← bsB_of (s := a1) rfl]
  · show a1.data.toList.length ≤ _
    rw [len_data]
    subst e
    exact Nat.le_trans hb (Nat.le_trans (bulk_partZ (l := [y0.1, y1.1, y2.1, y3.1]) (by simp)) (by simp [Rows.uptoBulk]))
  · exact i64_wf r2
set_option maxRecDepth 100000 in
theorem open_tks_bulk {r : Reach} {b0 : Nat} {v : Value} {d : DataW H} {q : List MemPlace} (hv : Value.okWide Tryd.prog w r b0 22 v) (h : DataW.Trod enc Tryd.prog w base spare held 22 v d q) :
    ∃ (A : Option Addr) (n c : Nat) (L : List Tk), v = .slice A n c ∧ n ≤ 9223372036854775807 ∧ TkR w A n L ∧ ∀ p ∈ L, p.s.length ≤ Rows.uptoBulk d := by
  obtain ⟨a, len, cap, rfl⟩ := okWide_slice Tryd.underlying22 hv
  obtain ⟨fuel, hf⟩ := h
  obtain ⟨A, n, c, L, e, hn, hc, hm, _, hr, hp⟩ := open_rows (F := tF) (fun p d => p.s.length ≤ Rows.uptoBulk d ∧ -9223372036854775808 ≤ p.n ∧ p.n ≤ 9223372036854775807) tF_len (by decide) Tryd.underlying22 cellsTk (fun n cs x hx => open_tk hx) hf
  have e' : (.slice a len cap : Value) = .slice A n c := by simpa [Value.cells] using e
  refine ⟨A, n, c, L, e', Nat.le_trans hc hm, ⟨hn, hr, fun t ht => ?_⟩, fun t ht => ?_⟩
  · obtain ⟨_, _, _, _, _, h1, h2⟩ := hp t ht; exact h2
  · obtain ⟨ds, sp, dd, h0, h1, h2, _⟩ := hp t ht
    simp only at h0
    rw [h0]
    refine Nat.le_trans h2 (Nat.le_trans (bulk_partZ h1) ?_)
    simp only [Rows.uptoBulk]; omega
end
set_option maxRecDepth 100000 in
set_option maxHeartbeats 4000000 in
theorem jr_law {w : World} {A : Option Addr} {n c : Nat} {L : List Tk} (hn : n ≤ 9223372036854775807) (h : TkR w A n L) (hz : ∀ t ∈ L, t.s.length ≤ 1048576) (hL : Laid w) :
    Calls Tryd.prog 3 #[.slice A n c] w fun e w' => e = .returned (.bool true) ∧ Below w.heap.size w w' := by
  have KA := Lib.hid (fun W (hW : Laid W) => awake53_any W hW)
  have HL := Lib.hid hL
  have HX1 := Lib.hid h
  have KF := Lib.hid (few_any (c := c) hn h)
  have TJ := join_any (c := c) hn h hz hL
  have hlen := h.len
  cases hf : fwB L with
  | false =>
    rw [hf] at KF
    clear hL h TJ hlen hf
    go_enter Tryd.func3, Tryd.ntmps3
    go_wp2_with (first | (go_at_call 6; refine KF.out.mono ?_; rintro e w' ⟨rfl, rfl⟩) | (go_at_call 7; refine (KA.out _ HL.out).mono ?_; rintro e w1 ⟨rfl, hb1⟩))
    go_ret
    exact ⟨rfl, hb1⟩
  | true =>
    rw [hf] at KF
    by_cases hE : joE L = 0
    · obtain ⟨hsm, he⟩ := jo_rt hE
      obtain ⟨X, hX⟩ : ∃ X, bsB (joS L) = X := ⟨_, rfl⟩
      have hXd : X.data.toList = joS L := by rw [← hX, bsB_data]
      have hXz : X.size ≤ 9223372036854775807 := by
        have hj : (joS L).length ≤ 20000 := by
          unfold joS
          rw [if_pos hE]
          unfold joE at hE
          split at hE
          · cases hE
          · split at hE
            · split at hE
              · cases hE
              · omega
            · cases hE
        rw [← len_data, hXd]; omega
      have T3 := fun W (hW : Laid W) => tokenize_any X hXz W hW
      rw [hXd] at T3
      have hk := tkL_err (joS L)
      obtain ⟨⟨L3, P3, E3⟩, hR3⟩ : ∃ R, tkL (joS L) = R := ⟨_, rfl⟩
      have r3 := tkL_rng (joS L)
      have l3 := tkL_len (joS L)
      have hP := hk (by
        have : (joS L).length = X.size := by rw [← len_data, hXd]
        unfold joS
        rw [if_pos hE]
        unfold joE at hE
        split at hE
        · cases hE
        · split at hE
          · split at hE
            · cases hE
            · omega
          · cases hE)
      rw [hR3] at T3 hsm he r3 l3 hP
      simp only at hsm he r3 l3 hP
      subst he
      obtain rfl : P3 = 0 := hP.1 rfl
      rw [hE, hX] at TJ
      have TT2 := Lib.hid TJ
      have TT3 := Lib.hid T3
      have R3 := Lib.hid r3
      have LL3 := Lib.hid l3
      have SM := Lib.hid hsm
      clear hL h TJ hlen hf hE hsm hX hXd hXz T3 hk hR3 r3 l3 hP
      go_enter Tryd.func3, Tryd.ntmps3
      go_wp2_with (first
        | (go_at_call 6; refine KF.out.mono ?_; rintro e w' ⟨rfl, rfl⟩)
        | (go_at_call 8; refine TT2.out.mono ?_; rintro e w3 ⟨rfl, hb3⟩; have HX1 := Lib.hid (HX1.out.up hb3); have HB := Lib.hid hb3; clear hb3)
        | (go_at_call 9; refine (TT3.out _ (HL.out.up HB.out)).mono ?_; rintro e w4 ⟨A4, n4, c4, rfl, ho4, hb4⟩; have hn4 : n4 ≤ 5000 := (by rw [← ho4.len]; exact LL3.out); have HX4 := Lib.hid (own_tkr ho4 R3.out); have HX1 := Lib.hid (HX1.out.up hb4); have HB := Lib.hid (below_on HB.out hb4); clear hb4 ho4)
        | (go_at_call 7; refine (KA.out _ (HL.out.up HB.out)).mono ?_; rintro e w5 ⟨rfl, hb5⟩; have HX1 := Lib.hid (HX1.out.up hb5); have HX4 := Lib.hid (HX4.out.up hb5); have HB := Lib.hid (below_on HB.out hb5); clear hb5)
        | (go_at_call 10; refine (same_yes HX4.out HX1.out SM.out (by omega)).mono ?_; rintro e w6 ⟨rfl, q6, rfl⟩))
      go_ret
      exact ⟨rfl, below_dr HB.out _⟩
    · have hS : joS L = [] := by unfold joS; rw [if_neg hE]
      have hEE : joE L = 5 ∨ joE L = 1 ∨ joE L = 8 := by
        unfold joE at hE ⊢
        split
        · exact Or.inl rfl
        · split
          · rename_i h1 h2
            rw [if_neg h1, if_pos h2] at hE
            split
            · exact Or.inr (Or.inr rfl)
            · rename_i h3; rw [if_neg h3] at hE; exact absurd rfl hE
          · exact Or.inr (Or.inl rfl)
      rw [hS, show bsB [] = ⟨#[]⟩ from rfl] at TJ
      clear hE hS hL h hlen hf
      rcases hEE with h | h | h
      all_goals
        rw [h] at TJ
        have TT2 := Lib.hid TJ
        clear TJ h
        go_enter Tryd.func3, Tryd.ntmps3
        go_wp2_with (first
          | (go_at_call 6; refine KF.out.mono ?_; rintro e w' ⟨rfl, rfl⟩)
          | (go_at_call 8; refine TT2.out.mono ?_; rintro e w3 ⟨rfl, hb3⟩; have HB := Lib.hid hb3; clear hb3)
          | (go_at_call 7; refine (KA.out _ (HL.out.up HB.out)).mono ?_; rintro e w5 ⟨rfl, hb5⟩; have HB := Lib.hid (below_on HB.out hb5); clear hb5))
        all_goals
          go_ret
          exact ⟨rfl, HB.out⟩

end Go.Proofs.YtfpdnhbbbadegaaDoor
