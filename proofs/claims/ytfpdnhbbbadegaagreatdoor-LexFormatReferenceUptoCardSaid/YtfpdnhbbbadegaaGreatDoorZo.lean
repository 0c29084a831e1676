/- Layer 53: a token and a list of tokens as arguments, opened (second form). -/
import Derived.Test.YtfpdnhbbbadegaaGreatDoorZa
import Derived.Test.YtfpdnhbbbadegaaGreatDoorYt
import Derived.Test.YtfpdnhbbbadegaaGreatDoorRows
namespace Go.Proofs.YtfpdnhbbbadegaaGreatDoor
open Go.ChangeShapes Go.WideShapes Go.ChangeAt Go.RowKit Go.Deep Go.PlainAid
set_option linter.unusedSimpArgs false
set_option linter.unusedVariables false

theorem cellsTk : Tryz.prog.cellsOf 27 = 4 := by kernel_rfl
theorem cellsIZ : Tryz.prog.cellsOf 3 = 1 := by kernel_rfl
theorem cellsSZ : Tryz.prog.cellsOf 9 = 1 := by kernel_rfl
theorem i64_wf {n : Int} (h : (Lit.int .i64 n).wf = true) : -9223372036854775808 ≤ n ∧ n ≤ 9223372036854775807 := by
  simp only [Lit.wf, Bool.and_eq_true, decide_eq_true_eq] at h
  have h1 := h.1
  have h2 := h.2
  rw [show IntKind.i64.min = -9223372036854775808 from by rfl] at h1
  rw [show IntKind.i64.max = 9223372036854775807 from by rfl] at h2
  exact ⟨h1, h2⟩
theorem list4Z {α : Type} : ∀ (l : List α), l.length = 4 → ∃ a b c d, l = [a, b, c, d]
  | [a, b, c, d], _ => ⟨a, b, c, d, rfl⟩
theorem bulk_partZ {H : Type} {d : DataW H} {l : List (DataW H)} (h : d ∈ l) : Rows.uptoBulk d ≤ Rows.uptoBulkAll l := by
  induction l with
  | nil => cases h
  | cons x r ih =>
    simp only [Rows.uptoBulkAll]
    cases List.mem_cons.1 h with
    | inl e => subst e; omega
    | inr e => have := ih e; omega
section
variable {H : Type} {enc : TypeId × Value → H} {w : World} {base : Nat} {spare : Nat → Bool} {held : Bool}
set_option maxRecDepth 100000 in
theorem open_tk {fuel : Nat} {cs : List Value} {x : DataW H × List MemPlace} (h : DataW.trod enc Tryz.prog w base spare held fuel 27 cs = some x) :
    ∃ p : Tk, cs = tF p ∧ (p.s.length ≤ Rows.uptoBulk x.1 ∧ -9223372036854775808 ≤ p.n ∧ p.n ≤ 9223372036854775807) := by
  obtain ⟨xs, n, _, e, hl, hxl, hg⟩ := DataW.trod_struct Tryz.underlying27 h
  have h0 := hg 0 _ rfl
  have h1 := hg 1 _ rfl
  have h2 := hg 2 _ rfl
  have h3 := hg 3 _ rfl
  rw [cellsTk] at hl
  obtain ⟨v0, v1, v2, v3, rfl⟩ := list4Z cs hl
  obtain ⟨y0, y1, y2, y3, rfl⟩ := list4Z xs hxl
  change DataW.trod enc Tryz.prog w base spare held n 3 (List.take (Tryz.prog.cellsOf 3) [v0, v1, v2, v3]) = some y0 at h0
  change DataW.trod enc Tryz.prog w base spare held n 9 (List.take (Tryz.prog.cellsOf 9) [v1, v2, v3]) = some y1 at h1
  change DataW.trod enc Tryz.prog w base spare held n 3 (List.take (Tryz.prog.cellsOf 3) [v2, v3]) = some y2 at h2
  change DataW.trod enc Tryz.prog w base spare held n 3 (List.take (Tryz.prog.cellsOf 3) [v3]) = some y3 at h3
  rw [cellsIZ] at h0 h2 h3
  rw [cellsSZ] at h1
  obtain ⟨a0, e0, _, _⟩ := DataW.trod_int Tryz.underlying3 h0
  obtain ⟨a1, e1, d1, _⟩ := DataW.trod_string Tryz.underlying9 h1
  obtain ⟨a2, e2, _, r2⟩ := DataW.trod_int Tryz.underlying3 h2
  obtain ⟨a3, e3, _, _⟩ := DataW.trod_int Tryz.underlying3 h3
  simp at e0 e1 e2 e3
  subst e0 e1 e2 e3
  have hb : a1.size ≤ Rows.uptoBulk y1.1 := by
    rw [d1]
    simp [Rows.uptoBulk, ByteArray.toList_eq]
  refine ⟨⟨a0, a1.data.toList, a2, a3⟩, ?_, ?_, ?_⟩
  · show [Value.int .i64 a0, .string a1, .int .i64 a2, .int .i64 a3] = [Value.int .i64 a0, .string (bsB a1.data.toList), .int .i64 a2, .int .i64 a3]
    rw [← bsB_of (s := a1) rfl]
  · show a1.data.toList.length ≤ _
    rw [len_data]
    subst e
    exact Nat.le_trans hb (Nat.le_trans (bulk_partZ (l := [y0.1, y1.1, y2.1, y3.1]) (by simp)) (by simp [Rows.uptoBulk]))
  · exact i64_wf r2
set_option maxRecDepth 100000 in
theorem open_tks_bulk {r : Reach} {b0 : Nat} {v : Value} {d : DataW H} {q : List MemPlace} (hv : Value.okWide Tryz.prog w r b0 22 v) (h : DataW.Trod enc Tryz.prog w base spare held 22 v d q) :
    ∃ (A : Option Addr) (n c : Nat) (L : List Tk), v = .slice A n c ∧ n ≤ 9223372036854775807 ∧ TkR w A n L ∧ ∀ p ∈ L, p.s.length ≤ Rows.uptoBulk d := by
  obtain ⟨a, len, cap, rfl⟩ := okWide_slice Tryz.underlying22 hv
  obtain ⟨fuel, hf⟩ := h
  obtain ⟨A, n, c, L, e, hn, hc, hm, _, hr, hp⟩ := open_rows (F := tF) (fun p d => p.s.length ≤ Rows.uptoBulk d ∧ -9223372036854775808 ≤ p.n ∧ p.n ≤ 9223372036854775807) tF_len (by decide) Tryz.underlying22 cellsTk (fun n cs x hx => open_tk hx) hf
  have e' : (.slice a len cap : Value) = .slice A n c := by simpa [Value.cells] using e
  refine ⟨A, n, c, L, e', Nat.le_trans hc hm, ⟨hn, hr, fun t ht => ?_⟩, fun t ht => ?_⟩
  · obtain ⟨_, _, _, _, _, h1, h2⟩ := hp t ht; exact h2
  · obtain ⟨ds, sp, dd, h0, h1, h2, _⟩ := hp t ht
    simp only at h0
    rw [h0]
    refine Nat.le_trans h2 (Nat.le_trans (bulk_partZ h1) ?_)
    simp only [Rows.uptoBulk]; omega
set_option maxRecDepth 100000 in
theorem open_tk_of {r : Reach} {b0 : Nat} {v : Value} {d : DataW H} {q : List MemPlace} (hv : Value.okWide Tryz.prog w r b0 27 v) (h : DataW.Trod enc Tryz.prog w base spare held 27 v d q) :
    ∃ p : Tk, v = .agg #[.int .i64 p.k, .string (bsB p.s), .int .i64 p.n, .int .i64 p.a] ∧ p.s.length ≤ Rows.uptoBulk d ∧ -9223372036854775808 ≤ p.n ∧ p.n ≤ 9223372036854775807 := by
  obtain ⟨cs, rfl, hsz⟩ := okWide_struct Tryz.underlying27 hv
  obtain ⟨fuel, hf⟩ := h
  obtain ⟨p, e, hp⟩ := open_tk hf
  refine ⟨p, ?_, hp⟩
  have e' : cs.toList = tF p := by simpa [Value.cells] using e
  have : cs = (tF p).toArray := by rw [← e']
  rw [this]; rfl
end

end Go.Proofs.YtfpdnhbbbadegaaGreatDoor
