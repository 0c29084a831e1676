/- Layer 19: the reference's BackEdges. -/
import Derived.Test.YtpghkdmljanncaaFb
namespace Go.Proofs.Ytpghkdmljanncaa
open Go.ChangeShapes Go.WideShapes Go.ChangeAt Go.RowKit Go.PlainAid
set_option linter.unusedSimpArgs false
set_option linter.unusedVariables false

theorem own_lit0P {w : World} {B : Nat} (hB : B ≤ w.heap.size) : (w.alloc (.cells #[] 61)).ownsRow B 61 2 (.slice (some ⟨w.heap.size, 0, none⟩) 0 0) 0 (prow []) :=
  ⟨rfl, Or.inr ⟨w.heap.size, 0, #[], rfl, hB, World.alloc_heap_new _ _, Nat.zero_le _, Nat.zero_le _, rfl, rfl⟩⟩
/-- a row of numbers outside the block of v -/
def RowO (w : World) (A : Option Addr) (L : List Int) (v : Value) : Prop :=
  L = [] ∨ ∃ g o, A = some ⟨g, o, none⟩ ∧ g < w.heap.size ∧ v.ownBlock ≠ some g ∧ ∀ (j : Nat) (x : Int), L[j]? = some x → w.cell? ⟨g, o + j, none⟩ = some (.int .i64 x)
theorem RowO.of {w : World} {A : Option Addr} {L : List Int} {B e k n : Nat} {v : Value} {xs : List Value} {W : World} (hr : Row w w.heap.size A L) (h : W.ownsRow B e k v n xs) (hA : ∀ g o s, A = some ⟨g, o, s⟩ → W.heap.size ≤ g) : RowO w A L v := by
  rcases hr with h0 | ⟨g, o, hA1, hg, hc⟩
  · exact Or.inl h0
  · refine Or.inr ⟨g, o, hA1, hg, fun h2 => ?_, hc⟩
    have := (h.lt g h2).2
    have := hA g o none hA1
    omega
theorem RowO.row {w : World} {A : Option Addr} {L : List Int} {v : Value} (h : RowO w A L v) : Row w w.heap.size A L := by
  rcases h with h0 | ⟨g, o, hA, hg, _, hc⟩
  · exact Or.inl h0
  · exact Or.inr ⟨g, o, hA, hg, hc⟩
theorem RowO.up {w w' : World} {A : Option Addr} {L : List Int} {v : Value} (h : RowO w A L v) (hb : Below w.heap.size w w') : RowO w' A L v := by
  rcases h with h0 | ⟨g, o, hA, hg, hv, hc⟩
  · exact Or.inl h0
  · exact Or.inr ⟨g, o, hA, Nat.lt_of_lt_of_le hg hb.size, hv, fun j x hx => (hb.cell (p := ⟨g, _, none⟩) hg).trans (hc j x hx)⟩
theorem RowO.grow {w w' : World} {A : Option Addr} {L : List Int} {v v' : Value} (h : RowO w A L v) (hg : w.grownBy w' v.ownBlock) (hl : Lies w v v') : RowO w' A L v' := by
  rcases h with h0 | ⟨g, o, hA, hgl, hv, hc⟩
  · exact Or.inl h0
  · refine Or.inr ⟨g, o, hA, Nat.lt_of_lt_of_le hgl hg.size, ?_, fun j x hx => ?_⟩
    · rcases hl with hl | ⟨k, hl, hk⟩
      · rw [hl]; exact hv
      · rw [hl]; intro e; injection e with e; omega
    · rw [grown_cell hg hgl hv]
      exact hc j x hx
theorem wpList_append_liesP {w : World} {ops : Array Oper} {rest : List Oper} {o : Oper} {a : Act} {Q : Exit → Act → World → Prop} (hg : o.guard = none) (s x : Operand)
    (hop : o.op = Op.call { callee := Callee.builtin Builtin.append, args := #[s, x], argTypes := #[58, 58] })
    (base n B : Nat) (L : List (Int × Int)) (p q : Int) (v : Value) (hs : a.eval s = v) (hown : w.ownsRow base 61 2 v n (prow L)) (hx : a.eval x = .slice (some ⟨B, 0, none⟩) 1 1)
    (h0 : w.cell? ⟨B, 0, none⟩ = some (.int .i64 p)) (h1 : w.cell? ⟨B, 1, none⟩ = some (.int .i64 q)) (hb : n ≤ 1000000) (hbase : base ≤ w.heap.size)
    (h : ∀ A' c' w', w'.ownsRow base 61 2 (.slice A' (n + 1) c') (n + 1) (prow (L ++ [(p, q)])) → w.grownBy w' v.ownBlock → Lies w v (.slice A' (n + 1) c') → wpList Try.prog ops Q rest (a.put o.dst (.slice A' (n + 1) c')) w') : wpList Try.prog ops Q (o :: rest) a w := by
  obtain ⟨i0, hi0, hz0, hz1, hz2⟩ := info_parts infoP
  refine _root_.Go.wpList_append_lies w hg s x 58 hop base 61 i0 _ 2 16 Try.underlying58 hi0 hz0 hz1 hz2 rfl (by decide) v n (prow L) hs hown ⟨B, 0, none⟩ 1 1 [.int .i64 p, .int .i64 q] hx rfl (fun j u hu => by
    match j, hu with
    | 0, hu => obtain rfl := Option.some.inj hu; simpa [Addr.add] using h0
    | 1, hu => obtain rfl := Option.some.inj hu; simpa [Addr.add] using h1) (fun u hu => by
    simp at hu
    rcases hu with rfl | rfl <;> rfl) Nat.zero_lt_one (by unfold maxLen; omega) (by omega) hbase w.heap.size rfl ?_
  intro g cap w' h1 h2 h3 h4
  refine h (some ⟨g, 0, none⟩) cap w' (by rw [prow_snoc]; exact h1) h2 ?_
  rcases h3 with h3 | h3
  · exact Or.inl h3.symm
  · exact Or.inr ⟨g, rfl, by omega⟩
set_option maxRecDepth 100000 in
set_option maxHeartbeats 4000000 in
theorem rbe_any (c : Cd) (w : World) (hok : c.ok w) (hf : c.few) : Calls Try.prog 42 #[(Value.agg #[Value.int IntKind.i64 (Cd.st c), Value.int IntKind.i64 (Cd.lo c), Value.slice (Cd.iA c) (Cd.n c) (Cd.ic c), Value.slice (Cd.hA c) (Cd.hn c) (Cd.hc c), Value.slice (Cd.mA c) (Cd.mn c) (Cd.mc c), Value.slice (Cd.lA c) (Cd.ln c) (Cd.lc c)])] w (PairsOwn w (beK c c.n)) := by
  have hB : Below w.heap.size w w := Below.refl _ _
  have OK := Lib.hid hok
  have hcn := hf.n
  have HLN := Lib.hid (fun k => beK_len hok hf k)
  have HSF := Lib.hid (fun k => scL_few hok hf k)
  have H9 := Lib.hid (fun i (hi : i ∈ c.is) => show i.tn ≤ 900000 by have := hf.tn i hi; omega)
  clear hok
  go_enter Try.func42, Try.ntmps42
  go_upto_region 1 with fail
  have R := World.alloc_heap_new w (.cells #[.int .i64 c.st, .int .i64 c.lo, .slice c.iA c.n c.ic, .slice c.hA c.hn c.hc, .slice c.mA c.mn c.mc, .slice c.lA c.ln c.lc] 50)
  replace hB := below_al hB (.cells #[.int .i64 c.st, .int .i64 c.lo, .slice c.iA c.n c.ic, .slice c.hA c.hn c.hc, .slice c.mA c.mn c.mc, .slice c.lA c.ln c.lc] 50)
  generalize w.alloc (.cells #[.int .i64 c.st, .int .i64 c.lo, .slice c.iA c.n c.ic, .slice c.hA c.hn c.hc, .slice c.mA c.mn c.mc, .slice c.lA c.ln c.lc] 50) = W1 at R hB ⊢
  obtain ⟨r0, r1, r2, r3, r4, r5⟩ := six_cells R
  have y1 := lt_heap R
  replace R := Lib.hid R
  have OK1 := Lib.hid (OK.out.up hB)
  have HB := Lib.hid hB
  have HN0 := Lib.hid (show Prs W1 (W1.alloc (.cells #[] 61)) (beK c 0) (.slice (some ⟨W1.heap.size, 0, none⟩) 0 0) from ⟨own_lit0P (Nat.le_refl _), below_al (Below.refl _ _) _⟩)
  clear hB
  go_wp2
  go_loopw [3, 4] (fun v z wr => ∃ k : Nat, k ≤ c.n ∧ z = .int .i64 k ∧ Prs W1 wr (beK c k) v) (fun _ z _ => c.n - (intOf z).toNat)
  case atStart => exact ⟨0, Nat.zero_le _, rfl, HN0.out⟩
  case round =>
    clear r0 r1 r2 r3 r4 r5 HN0
    obtain ⟨k, hk, rfl, N⟩ := hrel
    have HN := Lib.hid N
    have OKr := Lib.hid (OK1.out.up N.bel)
    have RBr := Lib.hid ((N.bel.block _ y1).trans R.out)
    clear N
    obtain ⟨r0, r1, r2, r3, r4, r5⟩ := six_cells RBr.out
    have yr := lt_heap RBr.out
    by_cases hlt : k < c.n
    · obtain ⟨S, hS⟩ : ∃ S, scL c k = S := ⟨_, rfl⟩
      have HS := Lib.hid hS
      obtain ⟨m, hm⟩ : ∃ m, S.length = m := ⟨_, rfl⟩
      have HM := Lib.hid hm
      have hm1 : m ≤ 102 := by have := HSF.out k; rw [hS, hm] at this; exact this
      clear hS hm
      go_upto_region 6 with (go_at_call 34; (with_reducible refine (rsc_any c _ _ OKr.out H9.out).mono ?_); rintro e w2 ⟨A3, c3, rfl, hc3, hm3, _, hr3, hA3, hb2⟩; rw [HS.out] at hc3 hr3; rw [HM.out] at hc3; rw [HS.out, HM.out])
      have HR2 := Lib.hid (RowO.of hr3 HN.out.own hA3)
      have HN2 := Lib.hid (show Prs W1 w2 (beK c k ++ ((S.take 0).filter (fun t => decide (t ≤ (k : Int)))).map fun t => ((k : Int), t)) _ by
        rw [List.take_zero, List.filter_nil, List.map_nil, List.append_nil]
        exact ⟨own_below HN.out.own hb2, below_on HN.out.bel hb2⟩)
      clear r0 r1 r2 r3 r4 r5 yr RBr OKr hr3 hA3 hb2
      go_wp2
      go_loopw [3, 6] (fun v z wx => ∃ j : Nat, j ≤ m ∧ z = .int .i64 j ∧ Prs W1 wx (beK c k ++ ((S.take j).filter (fun t => decide (t ≤ (k : Int)))).map fun t => ((k : Int), t)) v ∧ RowO wx A3 S v) (fun _ z _ => m - (intOf z).toNat)
      case atStart => exact ⟨0, Nat.zero_le _, rfl, HN2.out, HR2.out⟩
      case round =>
        clear HN2 HR2
        obtain ⟨j, hj, rfl, N, hv2⟩ := hrel
        have HNX := Lib.hid N
        have HV2 := Lib.hid hv2
        have hyx : w.heap.size < W1.heap.size := y1
        have hwx := N.bel.size
        obtain ⟨q, hq⟩ : ∃ q, (beK c k ++ ((S.take j).filter (fun t => decide (t ≤ (k : Int)))).map fun t => ((k : Int), t)).length = q := ⟨_, rfl⟩
        have hown := N.own
        have hqb : q ≤ 40000 := by
          have h1 := HLN.out k
          have h2 := List.length_filter_le (fun t => decide (t ≤ (k : Int))) (S.take j)
          rw [List.length_take] at h2
          rw [← hq, List.length_append, List.length_map]
          omega
        rw [hq] at hown
        have HQ := Lib.hid hq
        have HOWN := Lib.hid hown
        clear N hown hq
        by_cases hjt : j < m
        · obtain ⟨t, ht⟩ := get_someF (l := S) (k := j) (by rw [HM.out]; exact hjt)
          obtain ⟨gt, ot, rfl, hgt, hct⟩ := row_get hv2.row ht
          have HTJ := Lib.hid (take_snocF ht)
          have hj0 : (0 : Int) ≤ (j : Int) := by omega
          have hj1 : (j : Int) < (m : Int) := by omega
          clear ht hv2
          by_cases htk : t ≤ (k : Int)
          · have HTK := Lib.hid (show decide (t ≤ (k : Int)) = true from decide_eq_true htk)
            go_wp2_with (at_builtin; refine wpList_append_liesP (by rfl) _ _ (by rfl) W1.heap.size q wr.heap.size _ (k : Int) t _ (by rfl) (HOWN.out.alloc _) (by rfl) (two_cellsF (new_at rfl)).1 (two_cellsF (new_at rfl)).2 (by omega) (by have := HNX.out.bel.size; simp; omega) ?_; intro A4 c4 w4 ho4 hg4 hl4)
            have hkp := (HV2.out.up (below_al (Below.refl _ _) _)).grow hg4 hl4
            have hbl := grown_own (below_al HNX.out.bel _) (HOWN.out.alloc _) hg4
            exact ⟨⟨j + 1, hjt, by go_num, ⟨by rw [HTJ.out, List.filter_append, List.map_append, ← List.append_assoc]; simp only [List.filter_cons, HTK.out, if_true, List.filter_nil, List.map_cons, List.map_nil]; rw [List.length_append, HQ.out]; exact ho4, hbl⟩, hkp⟩, by simp [intOf]; omega⟩
          · have HTK := Lib.hid (show decide (t ≤ (k : Int)) = false from decide_eq_false htk)
            go_wp2
            exact ⟨⟨j + 1, hjt, by go_num, by rw [HTJ.out, List.filter_append, List.map_append, ← List.append_assoc]; simp only [List.filter_cons, HTK.out, Bool.false_eq_true, if_false, List.filter_nil, List.map_nil, List.append_nil]; exact HNX.out, HV2.out⟩, by simp [intOf]; omega⟩
        · obtain ⟨rfl⟩ : m = j := by omega
          go_wp2
          exact ⟨⟨k + 1, hlt, by go_num, by rw [beK_succ, HS.out]; have := HNX.out; rw [List.take_of_length_le (by rw [HM.out]; exact Nat.le_refl _)] at this; exact this⟩, by simp [intOf]; omega⟩
    · obtain ⟨hkn⟩ : c.n = k := by omega
      go_wp2
      go_ret
      exact ⟨_, rfl, own_leF HN.out.own HB.out.size, below_on HB.out HN.out.bel⟩

end Go.Proofs.Ytpghkdmljanncaa
