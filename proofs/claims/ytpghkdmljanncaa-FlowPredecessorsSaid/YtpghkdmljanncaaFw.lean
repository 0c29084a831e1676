/- Layer 19: few; the chapter's example, pure. -/
import Derived.Test.YtpghkdmljanncaaFj
namespace Go.Proofs.Ytpghkdmljanncaa
open Go.ChangeShapes Go.WideShapes Go.ChangeAt Go.RowKit Go.PlainAid
set_option linter.unusedSimpArgs false
set_option linter.unusedVariables false

/-- code as a parameter hands it over -/
structure Cd.raw (w : World) (c : Cd) : Prop where
  il : c.is.length = c.n
  iw : Ins w w.heap.size c.iA c.is
  ib : c.n ≤ 9223372036854775807
  hl : c.hs.length = c.hn
  hw : Hds w w.heap.size c.hA c.hs
  hb : c.hn ≤ 9223372036854775807
  nz : ∀ i ∈ c.is, i.nz
theorem Cd.raw.up {w w' : World} {c : Cd} (h : c.raw w) (hb : Below w.heap.size w w') : c.raw w' := ⟨h.il, h.iw.up hb, h.ib, h.hl, h.hw.up hb, h.hb, h.nz⟩
theorem Cd.raw.ok {w : World} {c : Cd} (h : c.raw w) (hf : c.few) : c.ok w := ⟨h.il, h.iw, by have := hf.n; omega, h.hl, h.hw, by have := hf.hn; omega, h.nz, fun i hi => by have := hf.tn i hi; omega⟩
def FewRet (w : World) (c : Cd) (e : Ending) (w' : World) : Prop := ∃ b, e = .returned (.bool b) ∧ (b = true ↔ c.few) ∧ Below w.heap.size w w'
set_option maxRecDepth 100000 in
set_option maxHeartbeats 4000000 in
theorem few_any (c : Cd) (w : World) (hok : c.raw w) : Calls Try.prog 30 #[(Value.agg #[Value.int IntKind.i64 (Cd.st c), Value.int IntKind.i64 (Cd.lo c), Value.slice (Cd.iA c) (Cd.n c) (Cd.ic c), Value.slice (Cd.hA c) (Cd.hn c) (Cd.hc c), Value.slice (Cd.mA c) (Cd.mn c) (Cd.mc c), Value.slice (Cd.lA c) (Cd.ln c) (Cd.lc c)])] w (FewRet w c) := by
  have hB : Below w.heap.size w w := Below.refl _ _
  have OK := Lib.hid hok
  have hib := hok.ib
  have hhb := hok.hb
  clear hok
  by_cases h1 : 300 < c.n
  · go_enter Try.func30, Try.ntmps30
    go_upto_region 1 with fail
    have R := World.alloc_heap_new w (.cells #[.int .i64 c.st, .int .i64 c.lo, .slice c.iA c.n c.ic, .slice c.hA c.hn c.hc, .slice c.mA c.mn c.mc, .slice c.lA c.ln c.lc] 50)
    replace hB := below_al hB (.cells #[.int .i64 c.st, .int .i64 c.lo, .slice c.iA c.n c.ic, .slice c.hA c.hn c.hc, .slice c.mA c.mn c.mc, .slice c.lA c.ln c.lc] 50)
    generalize w.alloc (.cells #[.int .i64 c.st, .int .i64 c.lo, .slice c.iA c.n c.ic, .slice c.hA c.hn c.hc, .slice c.mA c.mn c.mc, .slice c.lA c.ln c.lc] 50) = W1 at R hB ⊢
    obtain ⟨r0, r1, r2, r3, r4, r5⟩ := six_cells R
    have y1 := lt_heap R
    replace R := Lib.hid R
    go_wp2
    go_ret
    exact ⟨false, rfl, ⟨(fun h => by cases h), fun h => by have := h.n; omega⟩, hB⟩
  · by_cases h2 : 40 < c.hn
    · go_enter Try.func30, Try.ntmps30
      go_upto_region 1 with fail
      have R := World.alloc_heap_new w (.cells #[.int .i64 c.st, .int .i64 c.lo, .slice c.iA c.n c.ic, .slice c.hA c.hn c.hc, .slice c.mA c.mn c.mc, .slice c.lA c.ln c.lc] 50)
      replace hB := below_al hB (.cells #[.int .i64 c.st, .int .i64 c.lo, .slice c.iA c.n c.ic, .slice c.hA c.hn c.hc, .slice c.mA c.mn c.mc, .slice c.lA c.ln c.lc] 50)
      generalize w.alloc (.cells #[.int .i64 c.st, .int .i64 c.lo, .slice c.iA c.n c.ic, .slice c.hA c.hn c.hc, .slice c.mA c.mn c.mc, .slice c.lA c.ln c.lc] 50) = W1 at R hB ⊢
      obtain ⟨r0, r1, r2, r3, r4, r5⟩ := six_cells R
      have y1 := lt_heap R
      replace R := Lib.hid R
      go_wp2
      go_ret
      exact ⟨false, rfl, ⟨(fun h => by cases h), fun h => by have := h.hn; omega⟩, hB⟩
    · go_enter Try.func30, Try.ntmps30
      go_upto_region 1 with fail
      have R := World.alloc_heap_new w (.cells #[.int .i64 c.st, .int .i64 c.lo, .slice c.iA c.n c.ic, .slice c.hA c.hn c.hc, .slice c.mA c.mn c.mc, .slice c.lA c.ln c.lc] 50)
      replace hB := below_al hB (.cells #[.int .i64 c.st, .int .i64 c.lo, .slice c.iA c.n c.ic, .slice c.hA c.hn c.hc, .slice c.mA c.mn c.mc, .slice c.lA c.ln c.lc] 50)
      generalize w.alloc (.cells #[.int .i64 c.st, .int .i64 c.lo, .slice c.iA c.n c.ic, .slice c.hA c.hn c.hc, .slice c.mA c.mn c.mc, .slice c.lA c.ln c.lc] 50) = W1 at R hB ⊢
      obtain ⟨r0, r1, r2, r3, r4, r5⟩ := six_cells R
      have y1 := lt_heap R
      replace R := Lib.hid R
      have OK1 := Lib.hid (OK.out.up hB)
      have HB := Lib.hid hB
      obtain ⟨A, hA⟩ : ∃ A, c.iA = A := ⟨_, rfl⟩
      have HA := Lib.hid hA
      rw [hA] at r2
      clear hA hB
      go_wp2
      go_loopw [3] (fun z wr => ∃ k : Nat, k ≤ c.n ∧ z = .int .i64 k ∧ (∀ (j : Nat) (i : In), j < k → c.is[j]? = some i → i.tn ≤ 100) ∧ wr = W1) (fun z _ => c.n - (intOf z).toNat)
      case atStart => exact ⟨0, Nat.zero_le _, rfl, fun j i hj => absurd hj (Nat.not_lt_zero _), rfl⟩
      case round =>
        obtain ⟨k, hk, rfl, hall, rfl⟩ := hrel
        have HALL := Lib.hid hall
        have hiw := OK1.out.iw
        rw [HA.out] at hiw
        clear hall
        by_cases hlt : k < c.n
        · obtain ⟨i, hi⟩ := get_someF (l := c.is) (k := k) (by rw [OK1.out.il]; exact hlt)
          rcases hiw with h0 | ⟨g, o, rfl, hg, hcell⟩
          · rw [h0] at hi; simp at hi
          · obtain ⟨iok, a0, a1, a2, a3, a4, a5, a6, a7, a8, a9⟩ := hcell k _ hi
            have HI := Lib.hid hi
            have hk0 : (0 : Int) ≤ (k : Int) := by omega
            have hk1 : (k : Int) < (c.n : Int) := by omega
            clear hcell iok hi
            by_cases h3 : 100 < i.tn
            · go_wp2
              go_ret
              exact ⟨false, rfl, ⟨(fun h => by cases h), fun h => by have := h.tn i (List.mem_of_getElem? HI.out); omega⟩, HB.out⟩
            · go_wp2
              refine ⟨⟨k + 1, hlt, by go_num, fun j x hj hx => ?_, trivial⟩, by simp [intOf]; omega⟩
              rcases (by omega : j < k ∨ j = k) with h | rfl
              · exact HALL.out j x h hx
              · rw [HI.out] at hx
                rw [← Option.some.inj hx]; omega
        · obtain ⟨hnk⟩ : c.n = k := by omega
          clear hiw
          go_wp2
          go_ret
          refine ⟨true, rfl, ⟨fun _ => ⟨by omega, by omega, fun i hi => ?_⟩, fun _ => rfl⟩, HB.out⟩
          obtain ⟨j, hj, he⟩ := List.getElem_of_mem hi
          have := OK1.out.il
          exact HALL.out j i (by omega) (by rw [List.getElem?_eq_getElem hj, he])
theorem few_yes (c : Cd) (w : World) (hok : c.raw w) (hf : c.few) : Calls Try.prog 30 #[(Value.agg #[Value.int IntKind.i64 (Cd.st c), Value.int IntKind.i64 (Cd.lo c), Value.slice (Cd.iA c) (Cd.n c) (Cd.ic c), Value.slice (Cd.hA c) (Cd.hn c) (Cd.hc c), Value.slice (Cd.mA c) (Cd.mn c) (Cd.mc c), Value.slice (Cd.lA c) (Cd.ln c) (Cd.lc c)])] w fun e w' => e = .returned (.bool true) ∧ Below w.heap.size w w' :=
  (few_any c w hok).mono fun e w' ⟨b, he, hb, h⟩ => ⟨by rw [he, hb.2 hf], h⟩
theorem few_no (c : Cd) (w : World) (hok : c.raw w) (hf : ¬ c.few) : Calls Try.prog 30 #[(Value.agg #[Value.int IntKind.i64 (Cd.st c), Value.int IntKind.i64 (Cd.lo c), Value.slice (Cd.iA c) (Cd.n c) (Cd.ic c), Value.slice (Cd.hA c) (Cd.hn c) (Cd.hc c), Value.slice (Cd.mA c) (Cd.mn c) (Cd.mc c), Value.slice (Cd.lA c) (Cd.ln c) (Cd.lc c)])] w fun e w' => e = .returned (.bool false) ∧ Below w.heap.size w w' :=
  (few_any c w hok).mono fun e w' ⟨b, he, hb, h⟩ => ⟨by rw [he]; cases b with | false => rfl | true => exact absurd (hb.1 rfl) hf, h⟩
/- the chapter's example -/
def exI (op t : Int) : In := ⟨op, 0, 0, t, none, 0, 0, [], none, 0, 0, [], ⟨#[]⟩, ⟨#[]⟩, ⟨#[]⟩, ⟨#[]⟩⟩
def exL : List In := [exI 2 0, exI 36 3, exI 52 0, exI 58 0]
def exC (B : Nat) : Cd := ⟨0, 0, some ⟨B, 0, none⟩, 4, 4, exL, none, 0, 0, [], none, 0, 0, none, 0, 0⟩
theorem ord_is {L M : List Int} (hM : M.Pairwise (· < ·)) (h : ∀ x, x ∈ L ↔ x ∈ M) : ordL L = M := uniq_lt (ordL_spec L).1 hM fun x => by rw [(ordL_spec L).2]; exact h x
theorem ex_nx : nxL 4 (exI 2 0) 0 = [1] ∧ nxL 4 (exI 36 3) 1 = [3, 2] ∧ nxL 4 (exI 52 0) 2 = [0] ∧ nxL 4 (exI 58 0) 3 = [] := ⟨by kernel_rfl, by kernel_rfl, by kernel_rfl, by kernel_rfl⟩
theorem ex_sc (B : Nat) : scL (exC B) 0 = [1] ∧ scL (exC B) 1 = [2, 3] ∧ scL (exC B) 2 = [0] ∧ scL (exC B) 3 = [] := by
  obtain ⟨n0, n1, n2, n3⟩ := ex_nx
  refine ⟨?_, ?_, ?_, ?_⟩
  · rw [scL_yes (c := exC B) (x := 0) (i := exI 2 0) rfl (by kernel_rfl)]
    show ordL (nxL 4 (exI 2 0) 0) = _
    rw [n0]; exact ord_self (by simp)
  · rw [scL_yes (c := exC B) (x := 1) (i := exI 36 3) rfl (by kernel_rfl)]
    show ordL (nxL 4 (exI 36 3) 1) = _
    rw [n1]; exact ord_is (by simp) (fun x => by simp; omega)
  · rw [scL_yes (c := exC B) (x := 2) (i := exI 52 0) rfl (by kernel_rfl)]
    show ordL (nxL 4 (exI 52 0) 2) = _
    rw [n2]; exact ord_self (by simp)
  · rw [scL_yes (c := exC B) (x := 3) (i := exI 58 0) rfl (by kernel_rfl)]
    show ordL (nxL 4 (exI 58 0) 3) = _
    rw [n3]; exact ord_self (by simp)
theorem ex_hd (B : Nat) (x : Int) : hdL (exC B) x = [] := by
  unfold hdL
  split
  · rfl
  · rfl
theorem ex_ed (B : Nat) : edL (exC B) 0 = [1] ∧ edL (exC B) 1 = [2, 3] ∧ edL (exC B) 2 = [0] ∧ edL (exC B) 3 = [] := by
  obtain ⟨n0, n1, n2, n3⟩ := ex_sc B
  unfold edL
  simp only [ex_hd, List.map_nil, List.append_nil, n0, n1, n2, n3]
  exact ⟨ord_self (by simp), ord_self (by simp), ord_self (by simp), ord_self (by simp)⟩
theorem ex_be (B : Nat) : beK (exC B) 4 = [(2, 0)] := by
  obtain ⟨n0, n1, n2, n3⟩ := ex_sc B
  unfold beK
  simp [List.range, List.range.loop, n0, n1, n2, n3]
theorem ex_ds (B : Nat) : distL (exC B) = [0, 1, 2, 2] := by
  obtain ⟨n0, n1, n2, n3⟩ := ex_ed B
  unfold distL
  show dsOut (exC B) 5 [0, -1, -1, -1] [0] = _
  simp [dsOut, dsIn, n0, n1, n2, n3]
theorem ex_pd (B : Nat) : (pdJ (exC B) 4 [])[0]? = some [2] := by
  obtain ⟨n0, n1, n2, n3⟩ := ex_ed B
  rw [pdJ_at (c := exC B) (t := 0) (by decide : 0 < 4)]
  unfold pdR rowsI
  simp [List.range, List.range.loop, n0, n1, n2, n3]

end Go.Proofs.Ytpghkdmljanncaa
