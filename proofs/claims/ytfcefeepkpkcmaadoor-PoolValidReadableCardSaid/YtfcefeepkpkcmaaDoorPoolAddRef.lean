/- Layer 5: Add, in the reference. -/
import Derived.Test.YtfcefeepkpkcmaaDoorPoolAddThree
namespace Go.Proofs.YtfcefeepkpkcmaaDoor
open Go.ChangeShapes Go.WideShapes Go.ChangeAt Go.RowKit Go.PlainAid
set_option linter.unusedSimpArgs false
set_option linter.unusedVariables false

theorem new_at {W : World} {o : Obj} {B : Nat} (hB : B = W.heap.size) : (W.alloc o).heap[B]? = some o := by subst hB; exact World.alloc_heap_new _ _
/-- a row of constants that the call has made itself -/
def OwnP (w : World) (base : Nat) (A : Option Addr) (n c : Nat) (L : List Cn) : Prop := L.length = n ∧ n ≤ c ∧ ((n = 0 ∧ c = 0) ∨ w.ownsRow base 26 5 (.slice A n c) n (pcells L))
theorem OwnP.pool {w : World} {base n c : Nat} {A : Option Addr} {L : List Cn} (h : OwnP w base A n c L) : Pool w w.heap.size A L := by
  rcases h with ⟨h1, _, ⟨h2, _⟩ | h2⟩
  · have : L = [] := List.eq_nil_of_length_eq_zero (by omega)
    subst this
    exact Pool.nil _ _ _
  · exact Pool.of_own h2 h1
theorem OwnP.below {w w' : World} {base n c : Nat} {A : Option Addr} {L : List Cn} (h : OwnP w base A n c L) (hb : Below w.heap.size w w') : OwnP w' base A n c L := ⟨h.1, h.2.1, h.2.2.imp id fun h => owns_below h hb⟩
theorem OwnP.more {w : World} {base base' n c : Nat} {A : Option Addr} {L : List Cn} (h : OwnP w base A n c L) (hb : base' ≤ base) : OwnP w base' A n c L :=
  ⟨h.1, h.2.1, h.2.2.imp id fun h => ⟨h.1, h.2.imp id fun ⟨g, cap, cur, h1, h2, h3⟩ => ⟨g, cap, cur, h1, Nat.le_trans hb h2, h3⟩⟩⟩
theorem OwnP.alloc {w : World} {base n c : Nat} {A : Option Addr} {L : List Cn} (h : OwnP w base A n c L) (o : Obj) : OwnP (w.alloc o) base A n c L := h.below ((Below.refl _ _).alloc (Nat.le_refl _) o)
theorem OwnP.drew {w : World} {base n c : Nat} {A : Option Addr} {L : List Cn} (h : OwnP w base A n c L) : OwnP w.drew base A n c L := h.below (Below.refl _ _).drew

theorem run_append_copy {w : World} (ty : TypeId) {B : Nat} {A : Option Addr} {n c : Nat} {L : List Cn} (hL : Pool w w.heap.size A L) (hn : L.length = n) (hN : n ≤ 100000) :
    ∃ A' c' w', (Builtin.append_ #[22, 22] ty #[.slice (some ⟨B, 0, none⟩) 0 0, .slice A n c]).run Tryd.prog w = .ok (.slice A' n c') w' ∧ OwnP w' w.heap.size A' n c' L ∧ Below w.heap.size w w' := by
  rcases hL.cells with rfl | ⟨g, o, rfl, _, hc⟩
  · obtain rfl : n = 0 := hn.symm
    refine ⟨some ⟨B, 0, none⟩, 0, w, ?_, ⟨rfl, Nat.le_refl _, Or.inl ⟨rfl, rfl⟩⟩, Below.refl _ _⟩
    obtain ⟨i0, hi, hz0, hz1, hz2⟩ := info_parts infoC
    cases A with
    | none => simp [Builtin.append_, run_underlying Tryd.underlying22, sizeOf, typeInfo, hi, Builtin.lenOf, Builtin.firstCells, storeCells]
    | some b => simp [Builtin.append_, run_underlying Tryd.underlying22, sizeOf, typeInfo, hi, Builtin.lenOf, Builtin.firstCells, storeCells, loadCells, loadCellsFrom]
  · rcases Nat.eq_zero_or_pos n with h0 | h0
    · subst h0
      obtain rfl : L = [] := List.eq_nil_of_length_eq_zero hn
      refine ⟨some ⟨B, 0, none⟩, 0, w, ?_, ⟨rfl, Nat.le_refl _, Or.inl ⟨rfl, rfl⟩⟩, Below.refl _ _⟩
      obtain ⟨i0, hi, hz0, hz1, hz2⟩ := info_parts infoC
      simp [Builtin.append_, run_underlying Tryd.underlying22, sizeOf, typeInfo, hi, Builtin.lenOf, Builtin.firstCells, storeCells, loadCells, loadCellsFrom]
    · obtain ⟨g', cap, w', hr, h1, h2⟩ := run_append_pool (A := some ⟨B, 0, none⟩) (n := 0) (L := []) (c := c) ty (Pool.nil w _ _) rfl (by omega) hc hn h0 hN
      rw [Nat.zero_add] at hr h1
      exact ⟨_, cap, w', hr, ⟨hn, own_cap h1, Or.inr h1⟩, h2⟩
theorem run_append_own_pool {w : World} (ty : TypeId) {base n c : Nat} {A : Option Addr} {L : List Cn} (hO : OwnP w base A n c L) (hN : n ≤ 100000) (hb : base ≤ w.heap.size)
    {gx ox m cx : Nat} {M : List Cn} (hM : ∀ j u, (pcells M)[j]? = some u → w.cell? ⟨gx, ox + j, none⟩ = some u) (hm : M.length = m) (hm0 : 0 < m) (hmN : m ≤ 100000) :
    ∃ A' c' w', (Builtin.append_ #[22, 22] ty #[.slice A n c, .slice (some ⟨gx, ox, none⟩) m cx]).run Tryd.prog w = .ok (.slice A' (n + m) c') w' ∧ OwnP w' base A' (n + m) c' (L ++ M) ∧ Below base w w' := by
  have hlen : (L ++ M).length = n + m := by rw [List.length_append, hO.1, hm]
  rcases hO.2.2 with ⟨h1, h2⟩ | h
  · subst h1; subst h2
    obtain rfl : L = [] := List.eq_nil_of_length_eq_zero hO.1
    obtain ⟨g', cap, w', hr, h1, h2⟩ := run_append_pool (A := A) (n := 0) (L := []) (c := cx) ty (Pool.nil w _ _) rfl (by omega) hM hm hm0 hmN
    exact ⟨_, cap, w', hr, OwnP.more ⟨hlen, own_cap h1, Or.inr h1⟩ hb, h2.mono hb⟩
  · obtain ⟨i0, hi, hz0, hz1, hz2⟩ := info_parts infoC
    obtain ⟨g, cap, w', hr, h1, h2, _, _⟩ := run_append_lies (P := Tryd.prog) w 22 ty base 26 i0 (.agg #[.int .i64 0, .string ⟨#[]⟩, .int .i64 0, .int .i64 0, .int .i64 0]) 5 48 Tryd.underlying22 hi hz0 hz1 hz2 rfl (by decide) (.slice A n c) n (pcells L) h ⟨gx, ox, none⟩ m cx (pcells M) (by rw [pcells_len, hm]) (fun j u hj => by rw [Addr.add_lit]; exact hM j u hj) (pcells_cell M) hm0 (by unfold maxLen; omega) (by omega) hb w.heap.size rfl
    rw [← pcells_app] at h1
    refine ⟨_, cap, w', hr, ⟨hlen, own_cap h1, Or.inr h1⟩, grown_below h2 (fun k hk => ?_) hb⟩
    rcases h.2 with ⟨hv, _⟩ | ⟨g2, cap2, cur2, hv, hg2, _⟩
    · rw [hv] at hk; cases hk
    · rw [hv] at hk
      have : g2 = k := Option.some.inj hk
      omega
theorem wp_append_copy {w : World} {o : Oper} {a : Act} {K : Act → World → Prop} {Q : Exit → Act → World → Prop} (s x : Operand) (hop : o.op = Op.call { callee := Callee.builtin Builtin.append, args := #[s, x], argTypes := #[22, 22] })
    {B n c : Nat} {A : Option Addr} {L : List Cn} (hs : a.eval s = .slice (some ⟨B, 0, none⟩) 0 0) (hx : a.eval x = .slice A n c) (hL : Pool w w.heap.size A L) (hn : L.length = n) (hN : n ≤ 100000)
    (hK : ∀ A' c' w', OwnP w' w.heap.size A' n c' L → Below w.heap.size w w' → K (a.put o.dst (.slice A' n c')) w') : o.wp Tryd.prog a w K Q := by
  obtain ⟨A', c', w', hr, h2, h3⟩ := run_append_copy o.type (B := B) (c := c) hL hn hN
  unfold Oper.wp execOp
  simp only [hop, resolve, invoke, builtin, Sem.run_bind, Sem.run_pure, Result.andThen_ok, List.map_toArray, List.map_cons, List.map_nil, hs, hx, hr]
  exact hK A' c' w' h2 h3
theorem wpList_append_copy {w : World} {ops : Array Oper} {rest : List Oper} {o : Oper} {a : Act} {Q : Exit → Act → World → Prop} (hg : o.guard = none) (s x : Operand) (hop : o.op = Op.call { callee := Callee.builtin Builtin.append, args := #[s, x], argTypes := #[22, 22] })
    {B n c : Nat} {A : Option Addr} {L : List Cn} (hs : a.eval s = .slice (some ⟨B, 0, none⟩) 0 0) (hx : a.eval x = .slice A n c) (hL : Pool w w.heap.size A L) (hn : L.length = n) (hN : n ≤ 100000)
    (hK : ∀ A' c' w', OwnP w' w.heap.size A' n c' L → Below w.heap.size w w' → wpList Tryd.prog ops Q rest (a.put o.dst (.slice A' n c')) w') : wpList Tryd.prog ops Q (o :: rest) a w :=
  wpList_plain hg fun _ hK' => wp_append_copy s x hop hs hx hL hn hN fun A' c' w' h2 h3 => hK' _ _ (hK A' c' w' h2 h3)
theorem step_append_copy {w : World} {ops : Array Oper} {o : Oper} {a : Act} {K : Act → World → Prop} {Q : Exit → Act → World → Prop} {E : Prop} (hgd : o.guard = none) (s x : Operand) (hop : o.op = Op.call { callee := Callee.builtin Builtin.append, args := #[s, x], argTypes := #[22, 22] })
    {B n c : Nat} {A : Option Addr} {L : List Cn} (hs : a.eval s = .slice (some ⟨B, 0, none⟩) 0 0) (hx : a.eval x = .slice A n c) (hL : Pool w w.heap.size A L) (hn : L.length = n) (hN : n ≤ 100000)
    (hK : ∀ A' c' w', OwnP w' w.heap.size A' n c' L → Below w.heap.size w w' → K (a.put o.dst (.slice A' n c')) w') : if Region.wanted o (yielded ops a.tmps) = true then Oper.wp Tryd.prog o a w K Q else E := by
  have hw : Region.wanted o (yielded ops a.tmps) = true := by simp [Region.wanted, hgd]
  rw [if_pos hw]
  exact wp_append_copy s x hop hs hx hL hn hN hK
theorem wp_append_own {w : World} {o : Oper} {a : Act} {K : Act → World → Prop} {Q : Exit → Act → World → Prop} (s x : Operand) (hop : o.op = Op.call { callee := Callee.builtin Builtin.append, args := #[s, x], argTypes := #[22, 22] })
    {base n c : Nat} {A : Option Addr} {L : List Cn} (hs : a.eval s = .slice A n c) (hO : OwnP w base A n c L) (hN : n ≤ 100000) (hb : base ≤ w.heap.size) {gx ox m cx : Nat} {M : List Cn} (hx : a.eval x = .slice (some ⟨gx, ox, none⟩) m cx) (hM : ∀ j u, (pcells M)[j]? = some u → w.cell? ⟨gx, ox + j, none⟩ = some u) (hm : M.length = m) (hm0 : 0 < m) (hmN : m ≤ 100000)
    (hK : ∀ A' c' w', OwnP w' base A' (n + m) c' (L ++ M) → Below base w w' → K (a.put o.dst (.slice A' (n + m) c')) w') : o.wp Tryd.prog a w K Q := by
  obtain ⟨A', c', w', hr, h2, h3⟩ := run_append_own_pool o.type (cx := cx) hO hN hb hM hm hm0 hmN
  unfold Oper.wp execOp
  simp only [hop, resolve, invoke, builtin, Sem.run_bind, Sem.run_pure, Result.andThen_ok, List.map_toArray, List.map_cons, List.map_nil, hs, hx, hr]
  exact hK A' c' w' h2 h3
theorem wpList_append_own {w : World} {ops : Array Oper} {rest : List Oper} {o : Oper} {a : Act} {Q : Exit → Act → World → Prop} (hg : o.guard = none) (s x : Operand) (hop : o.op = Op.call { callee := Callee.builtin Builtin.append, args := #[s, x], argTypes := #[22, 22] })
    {base n c : Nat} {A : Option Addr} {L : List Cn} (hs : a.eval s = .slice A n c) (hO : OwnP w base A n c L) (hN : n ≤ 100000) (hb : base ≤ w.heap.size) {gx ox m cx : Nat} {M : List Cn} (hx : a.eval x = .slice (some ⟨gx, ox, none⟩) m cx) (hM : ∀ j u, (pcells M)[j]? = some u → w.cell? ⟨gx, ox + j, none⟩ = some u) (hm : M.length = m) (hm0 : 0 < m) (hmN : m ≤ 100000)
    (hK : ∀ A' c' w', OwnP w' base A' (n + m) c' (L ++ M) → Below base w w' → wpList Tryd.prog ops Q rest (a.put o.dst (.slice A' (n + m) c')) w') : wpList Tryd.prog ops Q (o :: rest) a w :=
  wpList_plain hg fun _ hK' => wp_append_own s x hop hs hO hN hb hx hM hm hm0 hmN fun A' c' w' h2 h3 => hK' _ _ (hK A' c' w' h2 h3)
theorem step_append_own {w : World} {ops : Array Oper} {o : Oper} {a : Act} {K : Act → World → Prop} {Q : Exit → Act → World → Prop} {E : Prop} (hgd : o.guard = none) (s x : Operand) (hop : o.op = Op.call { callee := Callee.builtin Builtin.append, args := #[s, x], argTypes := #[22, 22] })
    {base n c : Nat} {A : Option Addr} {L : List Cn} (hs : a.eval s = .slice A n c) (hO : OwnP w base A n c L) (hN : n ≤ 100000) (hb : base ≤ w.heap.size) {gx ox m cx : Nat} {M : List Cn} (hx : a.eval x = .slice (some ⟨gx, ox, none⟩) m cx) (hM : ∀ j u, (pcells M)[j]? = some u → w.cell? ⟨gx, ox + j, none⟩ = some u) (hm : M.length = m) (hm0 : 0 < m) (hmN : m ≤ 100000)
    (hK : ∀ A' c' w', OwnP w' base A' (n + m) c' (L ++ M) → Below base w w' → K (a.put o.dst (.slice A' (n + m) c')) w') : if Region.wanted o (yielded ops a.tmps) = true then Oper.wp Tryd.prog o a w K Q else E := by
  have hw : Region.wanted o (yielded ops a.tmps) = true := by simp [Region.wanted, hgd]
  rw [if_pos hw]
  exact wp_append_own s x hop hs hO hN hb hx hM hm hm0 hmN hK

set_option maxRecDepth 100000 in
set_option maxHeartbeats 1000000 in
theorem radd_any {w0 : World} {A : Option Addr} {n c : Nat} {L : List Cn} (x : Cn) (hn : L.length = n) (hN : n ≤ 100000) (hc : n ≤ c) (hp : Pool w0 w0.heap.size A L) (w : World) (hb : Below w0.heap.size w0 w) :
    Calls Tryd.prog 29 #[.slice A n c, (Value.agg #[Value.int IntKind.i64 (Cn.t x), Value.string (Cn.s x), Value.int IntKind.i64 (Cn.n x), Value.int IntKind.i64 (Cn.a x), Value.int IntKind.i64 (Cn.b x)])] w (AddRet w (adL L x) (adI L x) (adE L x)) := by
  have hB : Below w.heap.size w w := Below.refl _ _
  have HP := Lib.hid (hp.up hb)
  have HN := Lib.hid hn
  clear hn hp hb
  go_enter Tryd.func29, Tryd.ntmps29
  go_wp2
  go_loopw [7] (fun i wr => ∃ k q : Nat, k ≤ ixN L x ∧ i = .int .i64 k ∧ wr = (w.alloc (.cells #[.int .i64 x.t, .string x.s, .int .i64 x.n, .int .i64 x.a, .int .i64 x.b] 26)).drewN q) (fun i _ => n - (intOf i).toNat)
  case atStart => exact ⟨0, 0, Nat.zero_le _, rfl, rfl⟩
  case round =>
    obtain ⟨k, q, hk, rfl, rfl⟩ := hrel
    have hle := ix_le L x
    rw [HN.out] at hle
    by_cases hlt : k < n
    · have hp : ∃ p, L[k]? = some p := ⟨L[k]'(by rw [HN.out]; exact hlt), List.getElem?_eq_getElem _⟩
      obtain ⟨p, hp⟩ := hp
      rcases HP.out with h0 | ⟨b, o, rfl, hg, hcell⟩
      · rw [h0] at hp; cases hp
      · obtain ⟨a0, a1, a2, a3, a4⟩ := hcell k _ hp
        clear hcell
        have hk0 : (0 : Int) ≤ (k : Int) := by omega
        have hk1 : (k : Int) < (n : Int) := by omega
        have HK := Lib.hid hk
        have HPK := Lib.hid hp
        clear hle hk hp
        by_cases he : p = x
        · have g := Lib.hid (ad_1 (L := L) (x := x) (by rw [ix_here HK.out (by rw [HPK.out, he]), HN.out]; exact hlt))
          have hI : ixN L x = k := ix_here HK.out (by rw [HPK.out, he])
          have e1 := fun w => cn_eql p x w
          have e2 : cnQ p x = true := by rw [he]; exact cnQ_self x
          go_wp2
          go_quiet (fail)
          go_wp2
          go_ret3
          exact ⟨_, n, c, by rw [g.out.2.1, g.out.2.2, hI]; rfl, by rw [g.out.1]; exact HN.out, hc, by rw [g.out.1]; exact HP.out.up (below_dr (below_al hB _) _), below_dr (below_al hB _) _⟩
        · have e1 := fun w => cn_eql p x w
          have e2 := cnQ_no he
          go_wp2
          go_quiet (fail)
          go_wp2
          go_roundw
          case rel => exact ⟨k + 1, _, ix_next HK.out HPK.out e2, by go_num, rfl⟩
          case measure => simp [intOf]; omega
    · obtain rfl : k = n := by omega
      have h1 : ¬ ixN L x < L.length := by rw [HN.out]; omega
      by_cases h2 : 1000 ≤ L.length
      · have G := Lib.hid (ad_2 h1 h2)
        rw [HN.out] at h2
        go_wp2
        go_ret3
        exact ⟨A, _, c, by rw [G.out.2.1, G.out.2.2]; rfl, by rw [G.out.1]; exact HN.out, hc, by rw [G.out.1]; exact HP.out.up (below_dr (below_al hB _) _), below_dr (below_al hB _) _⟩
      · have G := Lib.hid (ad_3 h1 h2)
        rw [HN.out] at h2
        go_wp2
        have hwr : IntKind.i64.wrap ((k : Int) + 1) = (k : Int) + 1 := by rw [IntKind.wrap_i64]; omega
        have hB1 : Below w.heap.size w ((w.alloc (.cells #[.int .i64 x.t, .string x.s, .int .i64 x.n, .int .i64 x.a, .int .i64 x.b] 26)).drewN q) := below_dr (below_al hB _) _
        have hz1 : w.heap.size < ((w.alloc (.cells #[.int .i64 x.t, .string x.s, .int .i64 x.n, .int .i64 x.a, .int .i64 x.b] 26)).drewN q).heap.size := by simp
        have K0 : ((w.alloc (.cells #[.int .i64 x.t, .string x.s, .int .i64 x.n, .int .i64 x.a, .int .i64 x.b] 26)).drewN q).heap[w.heap.size]? = some (.cells #[.int .i64 x.t, .string x.s, .int .i64 x.n, .int .i64 x.a, .int .i64 x.b] 26) := World.alloc_heap_new w _
        generalize (w.alloc (.cells #[.int .i64 x.t, .string x.s, .int .i64 x.n, .int .i64 x.a, .int .i64 x.b] 26)).drewN q = W1 at hB1 hz1 K0 ⊢
        obtain ⟨k0, k1, k2, k3, k4, f0, f1, f2, f3, f4⟩ := five_cells K0
        clear f0 f1 f2 f3 f4 K0 hk hle
        go_region_held3 (fun w' => w'.cell? ⟨w.heap.size, 0, none⟩ = some (.int .i64 x.t) ∧ w'.cell? ⟨w.heap.size, 1, none⟩ = some (.string x.s) ∧ w'.cell? ⟨w.heap.size, 2, none⟩ = some (.int .i64 x.n) ∧ w'.cell? ⟨w.heap.size, 3, none⟩ = some (.int .i64 x.a) ∧ w'.cell? ⟨w.heap.size, 4, none⟩ = some (.int .i64 x.b) ∧ w.heap.size < w'.heap.size ∧ Below w.heap.size w w') (((try go_split_ands); (repeat' apply And.intro) <;> (first | assumption | exact (Below.cell hq (by first | (dsimp only; omega) | (simp; omega))).trans (by assumption) | (have := hq.size; omega) | (simp; omega) | exact below_on (w := w) (by assumption) hq | exact Below.trans (by assumption) (hq.mono (by first | omega | (simp; omega))) | exact Below.drew (by assumption) | exact below_al (by assumption) _ | exact below_al (Below.drew (by assumption)) _ | go_keep)))
          (first | (refine step_append_copy (by rfl) _ _ (by rfl) (by rfl) (by rfl) (HP.out.up (by first | assumption | (go_split_ands; assumption))) HN.out hN ?_; intro A1 c1 w2 hO hq) | (refine step_append_own (M := [x]) (by rfl) _ _ (by rfl) (by rfl) (by first | exact hO | exact hO.alloc _ | exact hO.drew.alloc _) hN (by have := hq.size; first | (simp at this ⊢; omega) | (simp; omega) | omega) (by rfl) (one_cells (by first | exact new_at (by simp; done) | exact (Below.block hq _ (by first | (simp; done) | (simp; omega))).trans (new_at (by simp; done)) | exact (Below.block hq _ (by first | (simp; done) | (simp; omega))).trans (laid_old (new_at (by simp; done))))) rfl Nat.zero_lt_one (by show 1 ≤ 100000; omega) ?_; intro A2 c2 w3 hO2 hq))
        all_goals (go_wp2; go_ret3; go_split_ands; exact ⟨A2, k + 1, c2, (by rw [G.out.2.1, G.out.2.2, HN.out]; rfl), (by rw [G.out.1]; exact hO2.1), hO2.2.1, (by rw [G.out.1]; exact hO2.pool), (by assumption)⟩)

end Go.Proofs.YtfcefeepkpkcmaaDoor
