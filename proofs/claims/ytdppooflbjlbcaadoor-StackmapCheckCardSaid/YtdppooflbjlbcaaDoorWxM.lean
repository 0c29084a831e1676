import Derived.Test.YtdppooflbjlbcaaDoorWzM
import Derived.Test.YtdppooflbjlbcaaDoorWvM

/- Wwh -/
/- Layer 22: StackmapCheck, the whole; class models opened with the weight of their methods. (Written by gen/wwh.py.) -/
namespace Go.Proofs.YtdppooflbjlbcaaDoor.I
open Go.ChangeShapes Go.WideShapes Go.ChangeAt Go.RowKit Go.Deep
set_option linter.unusedSimpArgs false
set_option linter.unusedVariables false

theorem chk_law (c : Cd) (u : CM) (x : Int) {A : Option Addr} {n cap : Nat} {ms : List SM} (w : World) (hr : c.raw22 w) (hu : u.ok w) (hmn : u.mn ≤ 764877654105) (hn : ms.length = n) (hz : A = none → n = 0 ∧ cap = 0) (hs : SMs w A ms) :
    Calls Tryd.prog 8 #[(Value.agg #[Value.int IntKind.i64 (Cd.st c), Value.int IntKind.i64 (Cd.lo c), Value.slice (Cd.iA c) (Cd.n c) (Cd.ic c), Value.slice (Cd.hA c) (Cd.hn c) (Cd.hc c), Value.slice (Cd.mA c) (Cd.mn c) (Cd.mc c), Value.slice (Cd.lA c) (Cd.ln c) (Cd.lc c)]), .slice A n cap, .agg #[.int .i64 u.fl, .string u.nm, .string u.su, .slice u.iA u.inn u.ic, .slice u.fA u.fn u.fc, .slice u.mA u.mn u.mc, .string u.so], .int .i64 x] w fun e w' => e = .returned (.bool true) ∧ Below w.heap.size w w' := by
  by_cases hf : fw22 c
  · by_cases h3 : 300 < n
    · exact chk_many (ms := ms) c u x w hr hf h3
    · have hN : n ≤ 300 := by omega
      by_cases h2 : x < 0 ∨ (0 ≤ x ∧ (u.mn : Int) ≤ x)
      · exact chk_bad c u x w hr hf hn hN hs 1 (fun W hW => at_out u x _ W h2) (fun W hW => rat_out u x _ W h2)
      · obtain ⟨i, rfl⟩ : ∃ i : Nat, x = i := ⟨x.toNat, by omega⟩
        obtain ⟨m, hm⟩ : ∃ m, u.mm[i]? = some m := ⟨_, List.getElem?_eq_getElem (by rw [hu.ml]; omega)⟩
        cases hc : m.hc with
        | false => exact chk_bad c u i w hr hf hn hN hs 1 (fun W hW => at_nocode u i m _ W hu.ml (hu.mw.up hW) hm hc) (fun W hW => rat_nocode u i m _ W hu.ml (hu.mw.up hW) hm hc)
        | true =>
          rcases ck_zero m.c ms with h5 | h5
          · exact chk_good c u i w hr hf hn hN hs hu i m hm (fun W hW => at_right u i m W hu.ml hmn (hu.mw.up hW) hm hc hn (by omega) hz (hs.up hW) h5) (fun W hW => rat_right u i m W hu.ml hmn (hu.mw.up hW) hm hc hn (by omega) hz (hs.up hW) h5)
          · exact chk_bad c u i w hr hf hn hN hs 25 (fun W hW => at_wrong u i m W hu.ml hmn (hu.mw.up hW) hm hc hn (by omega) hz (hs.up hW) h5) (fun W hW => rat_wrong u i m W hu.ml hmn (hu.mw.up hW) hm hc hn (by omega) hz (hs.up hW) h5)
  · exact chk_few (ms := ms) c u x w hr hf
theorem bytesMe : Tryd.prog.bytesOf 77 = 184 := by kernel_rfl
section
variable {H : Type} {enc : TypeId × Value → H} {w : World} {base : Nat} {spare : Nat → Bool} {held : Bool}
theorem mes_wt {fuel n c : Nat} {A : Option Addr} {x : DataW H × List MemPlace} (h : DataW.trod enc Tryd.prog w base spare held fuel 67 [.slice A n c] = some x) : n = 0 ∨ ∃ q ∈ DataW.weights Tryd.prog 67 x.1, n * 184 ≤ q := by
  rcases open_slice Tryd.underlying67 h with ⟨he, _⟩ | ⟨a, len, cap, m, _, D, Pl, he, hb, hl, hm, hmm, hx, hi⟩
  · injection he with he _
    injection he with _ h2 _
    exact Or.inl h2
  · injection he with he _
    injection he with _ h2 _
    exact Or.inr ⟨(len + (m - len)) * 184, by rw [hx]; simp only [DataW.weights, Tryd.underlying67, bytesMe, List.length_map, List.length_range]; exact List.mem_cons_self, by omega⟩
set_option maxRecDepth 100000 in
theorem open_cmw {fuel : Nat} {cs : List Value} {x : DataW H × List MemPlace} (h : DataW.trod enc Tryd.prog w base spare held fuel 69 cs = some x) : ∃ u : CM, cs = [.int .i64 u.fl, .string u.nm, .string u.su, .slice u.iA u.inn u.ic, .slice u.fA u.fn u.fc, .slice u.mA u.mn u.mc, .string u.so] ∧ u.raw w ∧ (u.mn = 0 ∨ ∃ q ∈ DataW.weights Tryd.prog 69 x.1, u.mn * 184 ≤ q) := by
  obtain ⟨xs, n, _, ex, hl, hxl, hg⟩ := DataW.trod_struct Tryd.underlying69 h
  have h0 := hg 0 _ rfl
  have h1 := hg 1 _ rfl
  have h2 := hg 2 _ rfl
  have h3 := hg 3 _ rfl
  have h4 := hg 4 _ rfl
  have h5 := hg 5 _ rfl
  have h6 := hg 6 _ rfl
  rw [cellsCM] at hl
  obtain ⟨v0, v1, v2, v3, v4, v5, v6, rfl⟩ := list7 cs hl
  obtain ⟨y0, y1, y2, y3, y4, y5, y6, rfl⟩ := list7 xs hxl
  change DataW.trod enc Tryd.prog w base spare held n 3 (List.take (Tryd.prog.cellsOf 3) [v0, v1, v2, v3, v4, v5, v6]) = some y0 at h0
  rw [cellsI] at h0
  change DataW.trod enc Tryd.prog w base spare held n 9 (List.take (Tryd.prog.cellsOf 9) [v1, v2, v3, v4, v5, v6]) = some y1 at h1
  rw [cellsS] at h1
  change DataW.trod enc Tryd.prog w base spare held n 9 (List.take (Tryd.prog.cellsOf 9) [v2, v3, v4, v5, v6]) = some y2 at h2
  rw [cellsS] at h2
  change DataW.trod enc Tryd.prog w base spare held n 65 (List.take (Tryd.prog.cellsOf 65) [v3, v4, v5, v6]) = some y3 at h3
  rw [cellsSt] at h3
  change DataW.trod enc Tryd.prog w base spare held n 66 (List.take (Tryd.prog.cellsOf 66) [v4, v5, v6]) = some y4 at h4
  rw [cellsFs] at h4
  change DataW.trod enc Tryd.prog w base spare held n 67 (List.take (Tryd.prog.cellsOf 67) [v5, v6]) = some y5 at h5
  rw [cellsMm] at h5
  change DataW.trod enc Tryd.prog w base spare held n 9 (List.take (Tryd.prog.cellsOf 9) [v6]) = some y6 at h6
  rw [cellsS] at h6
  obtain ⟨a0, e0, _, _⟩ := DataW.trod_int Tryd.underlying3 h0
  obtain ⟨a1, e1, _, _⟩ := DataW.trod_string Tryd.underlying9 h1
  obtain ⟨a2, e2, _, _⟩ := DataW.trod_string Tryd.underlying9 h2
  obtain ⟨A3, n3, c3, L3, e3, l3, k3, r3⟩ := open_sts h3
  obtain ⟨A4, n4, c4, L4, e4, l4, k4, r4⟩ := open_fds h4
  obtain ⟨A5, n5, c5, L5, e5, l5, k5, r5, q5⟩ := open_mes h5
  obtain ⟨a6, e6, _, _⟩ := DataW.trod_string Tryd.underlying9 h6
  have q5w := by
    rw [e5] at h5
    exact mes_wt h5
  simp at e0 e1 e2 e3 e4 e5 e6
  subst e0 e1 e2 e3 e4 e5 e6
  refine ⟨⟨a0, a1, a2, A3, n3, c3, L3, A4, n4, c4, L4, A5, n5, c5, L5, a6⟩, rfl, ⟨⟨l3, r3, k3, l4, r4, k4, l5, r5, k5⟩, fun m hm => (q5 m hm).2⟩, ?_⟩
  rcases q5w with h0 | ⟨q, hq, hle⟩
  · exact Or.inl h0
  · refine Or.inr ⟨q, ?_, hle⟩
    subst ex
    show q ∈ DataW.weights Tryd.prog 69 (.agg [y0.1, y1.1, y2.1, y3.1, y4.1, y5.1, y6.1])
    simp only [DataW.weights, Tryd.underlying69]
    exact DataW.weights_mem_each (j := 5) rfl rfl _ hq
set_option maxRecDepth 100000 in
theorem open_cmw_of {r : Reach} {b0 : Nat} {v : Value} {d : DataW H} {q : List MemPlace} (hv : Value.okWide Tryd.prog w r b0 69 v) (h : DataW.Trod enc Tryd.prog w base spare held 69 v d q) :
    ∃ u : CM, v = .agg #[.int .i64 u.fl, .string u.nm, .string u.su, .slice u.iA u.inn u.ic, .slice u.fA u.fn u.fc, .slice u.mA u.mn u.mc, .string u.so] ∧ u.raw w ∧ (u.mn = 0 ∨ ∃ q ∈ DataW.weights Tryd.prog 69 d, u.mn * 184 ≤ q) := by
  obtain ⟨cs, rfl, hsz⟩ := okWide_struct Tryd.underlying69 hv
  obtain ⟨fuel, hf⟩ := h
  obtain ⟨u, e, hu, hw⟩ := open_cmw hf
  refine ⟨u, ?_, hu, hw⟩
  have e' : cs.toList = [.int .i64 u.fl, .string u.nm, .string u.su, .slice u.iA u.inn u.ic, .slice u.fA u.fn u.fc, .slice u.mA u.mn u.mc, .string u.so] := by simpa [Value.cells] using e
  have : cs = #[.int .i64 u.fl, .string u.nm, .string u.su, .slice u.iA u.inn u.ic, .slice u.fA u.fn u.fc, .slice u.mA u.mn u.mc, .string u.so] := by rw [← Array.toList_inj, e']
  rw [this]
end
end Go.Proofs.YtdppooflbjlbcaaDoor.I
