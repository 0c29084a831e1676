/- Layer 19: BackEdges. -/
import Derived.Test.YtpghkdmljanncaaFu
namespace Go.Proofs.Ytpghkdmljanncaa
open Go.ChangeShapes Go.WideShapes Go.ChangeAt Go.RowKit Go.PlainAid
set_option linter.unusedSimpArgs false
set_option linter.unusedVariables false

def prow (L : List (Int × Int)) : List Value := L.flatMap fun p => [.int .i64 p.1, .int .i64 p.2]
theorem prow_len (L : List (Int × Int)) : (prow L).length = L.length * 2 := by
  unfold prow
  induction L with
  | nil => rfl
  | cons p L ih => rw [List.flatMap_cons, List.length_append, ih, List.length_cons]; simp; omega
theorem prow_snoc (L : List (Int × Int)) (p : Int × Int) : prow (L ++ [p]) = prow L ++ [.int .i64 p.1, .int .i64 p.2] := by unfold prow; simp
theorem own_typesF {w : World} {B B' e e' k k' n n' b : Nat} {v v' : Value} {xs xs' : List Value} (h : w.ownsRow B e k v n xs) (h2 : w.ownsRow B' e' k' v' n' xs') (he : e ≠ e') (h3 : v.ownBlock = some b) : v'.ownBlock ≠ some b := by
  intro h4
  rcases h.2 with ⟨rfl, _⟩ | ⟨g, cap, cur, rfl, _, hg, _⟩
  · cases h3
  · rcases h2.2 with ⟨rfl, _⟩ | ⟨g', cap', cur', rfl, _, hg', _⟩
    · cases h4
    · have e1 : g = b := Option.some.inj h3
      have e2 : g' = b := Option.some.inj h4
      subst e1
      subst e2
      rw [hg] at hg'
      have := Option.some.inj hg'
      injection this with _ h5 _
      exact he h5
theorem own_keptF {w w' : World} {B B' e e' k k' n n' : Nat} {v v' : Value} {xs xs' : List Value} (h : w.ownsRow B e k v n xs) (h2 : w.ownsRow B' e' k' v' n' xs') (he : e ≠ e') (hg : w.grownBy w' v.ownBlock) : w'.ownsRow B' e' k' v' n' xs' := by
  refine h2.kept hg ?_
  cases hk : v'.ownBlock with
  | none => exact Or.inl rfl
  | some b => exact Or.inr (fun e => own_typesF h h2 he e.symm hk)
theorem infoP : (Try.prog.info? 61).map (fun i => (i.zero, i.size, i.bytes)) = some (some (.agg #[.int .i64 0, .int .i64 0]), 2, 16) := by kernel_rfl
theorem wpList_append_pair {w : World} {ops : Array Oper} {rest : List Oper} {o : Oper} {a : Act} {Q : Exit → Act → World → Prop} (hg : o.guard = none) (s x : Operand)
    (hop : o.op = Op.call { callee := Callee.builtin Builtin.append, args := #[s, x], argTypes := #[58, 58] })
    (base n B : Nat) (L : List (Int × Int)) (p q : Int) (v : Value) (hs : a.eval s = v) (hown : w.ownsRow base 61 2 v n (prow L)) (hx : a.eval x = .slice (some ⟨B, 0, none⟩) 1 1)
    (h0 : w.cell? ⟨B, 0, none⟩ = some (.int .i64 p)) (h1 : w.cell? ⟨B, 1, none⟩ = some (.int .i64 q)) (hb : n ≤ 1000000) (hbase : base ≤ w.heap.size)
    (h : ∀ v' w', w'.ownsRow base 61 2 v' (n + 1) (prow (L ++ [(p, q)])) → w.grownBy w' v.ownBlock → wpList Try.prog ops Q rest (a.put o.dst v') w') : wpList Try.prog ops Q (o :: rest) a w := by
  obtain ⟨i0, hi0, hz0, hz1, hz2⟩ := info_parts infoP
  refine _root_.Go.wpList_append_own (w := w) hg s x 58 hop base 61 i0 _ 2 16 Try.underlying58 hi0 hz0 hz1 hz2 rfl (by decide) v n (prow L) hs hown ⟨B, 0, none⟩ 1 1 [.int .i64 p, .int .i64 q] hx rfl (fun j u hu => by
    match j, hu with
    | 0, hu => obtain rfl := Option.some.inj hu; simpa [Addr.add] using h0
    | 1, hu => obtain rfl := Option.some.inj hu; simpa [Addr.add] using h1) (fun u hu => by
    simp at hu
    rcases hu with rfl | rfl <;> rfl) (by unfold maxLen; omega) (by omega) hbase ?_
  intro v' w' h2 h3 _
  exact h v' w' (by rw [prow_snoc]; exact h2) h3
theorem two_cellsF {W : World} {B : Nat} {a b : Value} {t : TypeId} (hh : W.heap[B]? = some (.cells #[a, b] t)) : W.cell? ⟨B, 0, none⟩ = some a ∧ W.cell? ⟨B, 1, none⟩ = some b := by constructor <;> simp [World.cell?, hh]
/-- the back edges of the first k -/
def beK (c : Cd) (k : Nat) : List (Int × Int) := (List.range k).flatMap fun (j : Nat) => ((scL c j).filter (fun t => decide (t ≤ (j : Int)))).map fun t => ((j : Int), t)
theorem beK_succ (c : Cd) (k : Nat) : beK c (k + 1) = beK c k ++ ((scL c k).filter (fun t => decide (t ≤ (k : Int)))).map fun t => ((k : Int), t) := by unfold beK; rw [List.range_succ, List.flatMap_append]; simp
theorem beK_len {c : Cd} {w : World} (h : c.ok w) (hf : c.few) : ∀ k, (beK c k).length ≤ 102 * k
  | 0 => by simp [beK]
  | k + 1 => by
    have ih := beK_len h hf k
    have h1 := scL_few h hf k
    have h2 := List.length_filter_le (fun t => decide (t ≤ (k : Int))) (scL c k)
    rw [beK_succ, List.length_append, List.length_map]
    omega
structure Prs (W wr : World) (L : List (Int × Int)) (v : Value) : Prop where
  own : wr.ownsRow W.heap.size 61 2 v L.length (prow L)
  bel : Below W.heap.size W wr
def PairsOwn (w : World) (L : List (Int × Int)) (e : Ending) (w' : World) : Prop := ∃ v, e = .returned v ∧ w'.ownsRow w.heap.size 61 2 v L.length (prow L) ∧ Below w.heap.size w w'
theorem neP : 61 ≠ 3 := by decide
set_option maxRecDepth 100000 in
set_option maxHeartbeats 4000000 in
theorem be_any (c : Cd) (w : World) (hok : c.ok w) (hf : c.few) : Calls Try.prog 41 #[(Value.agg #[Value.int IntKind.i64 (Cd.st c), Value.int IntKind.i64 (Cd.lo c), Value.slice (Cd.iA c) (Cd.n c) (Cd.ic c), Value.slice (Cd.hA c) (Cd.hn c) (Cd.hc c), Value.slice (Cd.mA c) (Cd.mn c) (Cd.mc c), Value.slice (Cd.lA c) (Cd.ln c) (Cd.lc c)])] w (PairsOwn w (beK c c.n)) := by
  have hB : Below w.heap.size w w := Below.refl _ _
  have OK := Lib.hid hok
  have hcn := hf.n
  have HLN := Lib.hid (fun k => beK_len hok hf k)
  have HSF := Lib.hid (fun k => scL_few hok hf k)
  clear hok
  go_enter Try.func41, Try.ntmps41
  go_upto_region 1 with fail
  have R := World.alloc_heap_new w (.cells #[.int .i64 c.st, .int .i64 c.lo, .slice c.iA c.n c.ic, .slice c.hA c.hn c.hc, .slice c.mA c.mn c.mc, .slice c.lA c.ln c.lc] 50)
  replace hB := below_al hB (.cells #[.int .i64 c.st, .int .i64 c.lo, .slice c.iA c.n c.ic, .slice c.hA c.hn c.hc, .slice c.mA c.mn c.mc, .slice c.lA c.ln c.lc] 50)
  generalize w.alloc (.cells #[.int .i64 c.st, .int .i64 c.lo, .slice c.iA c.n c.ic, .slice c.hA c.hn c.hc, .slice c.mA c.mn c.mc, .slice c.lA c.ln c.lc] 50) = W1 at R hB ⊢
  obtain ⟨r0, r1, r2, r3, r4, r5⟩ := six_cells R
  have y1 := lt_heap R
  replace R := Lib.hid R
  have OK1 := Lib.hid (OK.out.up hB)
  have HB := Lib.hid hB
  clear hB
  go_wp2
  go_loopw [3, 10] (fun v z wr => ∃ k : Nat, k ≤ c.n ∧ z = .int .i64 k ∧ Prs W1 wr (beK c k) v) (fun _ z _ => c.n - (intOf z).toNat)
  case atStart => exact ⟨0, Nat.zero_le _, rfl, World.ownsRow_nil _ _ _ _, Below.refl _ _⟩
  case round =>
    clear r0 r1 r2 r3 r4 r5
    obtain ⟨k, hk, rfl, N⟩ := hrel
    have HN := Lib.hid N
    have OKr := Lib.hid (OK1.out.up N.bel)
    have RBr := Lib.hid ((N.bel.block _ y1).trans R.out)
    clear N
    by_cases hlt : k < c.n
    · obtain ⟨r0, r1, r2, r3, r4, r5⟩ := six_cells RBr.out
      have yr := lt_heap RBr.out
      obtain ⟨S, hS⟩ : ∃ S, scL c k = S := ⟨_, rfl⟩
      have HS := Lib.hid hS
      obtain ⟨m, hm⟩ : ∃ m, S.length = m := ⟨_, rfl⟩
      have HM := Lib.hid hm
      have hm1 : m ≤ 102 := by have := HSF.out k; rw [hS, hm] at this; exact this
      clear hS hm
      go_upto_region 6 with (go_at_call 33; (with_reducible refine (scs_any c _ _ OKr.out).mono ?_); rintro e w2 ⟨v2, rfl, ho2, hb2⟩; rw [HS.out, HM.out] at ho2; obtain ⟨A3, c3, rfl, hc3, hm3, _⟩ := own_form ho2)
      have HO2 := Lib.hid ho2
      have HN2 := Lib.hid (show Prs W1 w2 (beK c k ++ ((S.take 0).filter (fun t => decide (t ≤ (k : Int)))).map fun t => ((k : Int), t)) _ by
        rw [List.take_zero, List.filter_nil, List.map_nil, List.append_nil]
        exact ⟨own_below HN.out.own hb2, below_on HN.out.bel hb2⟩)
      clear r0 r1 r2 r3 r4 r5 yr RBr OKr ho2 hb2
      go_loopw [3, 17] (fun v z wx => ∃ j : Nat, j ≤ m ∧ z = .int .i64 j ∧ Prs W1 wx (beK c k ++ ((S.take j).filter (fun t => decide (t ≤ (k : Int)))).map fun t => ((k : Int), t)) v ∧ wx.ownsRow wr.heap.size 3 1 (.slice A3 m c3) m (Ri S)) (fun _ z _ => m - (intOf z).toNat)
      case atStart => exact ⟨0, Nat.zero_le _, rfl, HN2.out, HO2.out⟩
      case round =>
        clear HN2 HO2
        obtain ⟨j, hj, rfl, N, hv2⟩ := hrel
        have HNX := Lib.hid N
        have HV2 := Lib.hid hv2
        have hyx : w.heap.size < W1.heap.size := y1
        have hwx := N.bel.size
        obtain ⟨q, hq⟩ : ∃ q, (beK c k ++ ((S.take j).filter (fun t => decide (t ≤ (k : Int)))).map fun t => ((k : Int), t)).length = q := ⟨_, rfl⟩
        have hown := N.own
        have hqb : q ≤ 40000 := by
          have h1 := HLN.out k
          have h2 := List.length_filter_le (fun t => decide (t ≤ (k : Int))) (S.take j)
          rw [List.length_take] at h2
          rw [← hq, List.length_append, List.length_map]
          omega
        rw [hq] at hown
        have HQ := Lib.hid hq
        have HOWN := Lib.hid hown
        clear N hown hq
        by_cases hjt : j < m
        · obtain ⟨t, ht⟩ := get_someF (l := S) (k := j) (by rw [HM.out]; exact hjt)
          obtain ⟨gt, ot, rfl, hgt, hct⟩ := row_get (Row.of_own hv2).1 ht
          have HTJ := Lib.hid (take_snocF ht)
          have hj0 : (0 : Int) ≤ (j : Int) := by omega
          have hj1 : (j : Int) < (m : Int) := by omega
          clear ht hv2
          by_cases htk : t ≤ (k : Int)
          · have HTK := Lib.hid (show decide (t ≤ (k : Int)) = true from decide_eq_true htk)
            go_wp2_with (at_builtin; refine wpList_append_pair (by rfl) _ _ (by rfl) W1.heap.size q wr.heap.size _ (k : Int) t _ (by rfl) (HOWN.out.alloc _) (by rfl) (two_cellsF (new_at rfl)).1 (two_cellsF (new_at rfl)).2 (by omega) (by have := HNX.out.bel.size; simp; omega) ?_; intro v4 w4 ho4 hg4)
            have hkp := own_keptF (HOWN.out.alloc _) (HV2.out.alloc _) neP hg4
            have hbl := grown_own (below_al HNX.out.bel _) (HOWN.out.alloc _) hg4
            exact ⟨⟨j + 1, hjt, by go_num, ⟨by rw [HTJ.out, List.filter_append, List.map_append, ← List.append_assoc]; simp only [List.filter_cons, HTK.out, if_true, List.filter_nil, List.map_cons, List.map_nil]; rw [List.length_append, HQ.out]; exact ho4, hbl⟩, hkp⟩, by simp [intOf]; omega⟩
          · have HTK := Lib.hid (show decide (t ≤ (k : Int)) = false from decide_eq_false htk)
            go_wp2
            exact ⟨⟨j + 1, hjt, by go_num, by rw [HTJ.out, List.filter_append, List.map_append, ← List.append_assoc]; simp only [List.filter_cons, HTK.out, Bool.false_eq_true, if_false, List.filter_nil, List.map_nil, List.append_nil]; exact HNX.out, HV2.out⟩, by simp [intOf]; omega⟩
        · obtain ⟨rfl⟩ : m = j := by omega
          go_wp2
          exact ⟨⟨k + 1, hlt, by go_num, by rw [beK_succ, HS.out]; have := HNX.out; rw [List.take_of_length_le (by rw [HM.out]; exact Nat.le_refl _)] at this; exact this⟩, by simp [intOf]; omega⟩
    · obtain ⟨hkn⟩ : c.n = k := by omega
      go_wp2
      go_ret
      exact ⟨_, rfl, own_leF HN.out.own HB.out.size, below_on HB.out HN.out.bel⟩

end Go.Proofs.Ytpghkdmljanncaa
