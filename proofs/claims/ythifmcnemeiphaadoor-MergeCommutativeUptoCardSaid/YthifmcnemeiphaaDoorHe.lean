/- Layer 16: what 'visit' of reached does. -/
import Derived.Test.YthifmcnemeiphaaDoorHd
import Derived.Laws.OwnMore
import Derived.RangeFuncBox
namespace Go.Proofs.YthifmcnemeiphaaDoor
open Go.ChangeShapes Go.WideShapes Go.ChangeAt Go.RowKit Go.PlainAid Go.Maps
set_option linter.unusedSimpArgs false
set_option linter.unusedVariables false

def ints (O : List Nat) : List Value := O.map fun (j : Nat) => Value.int .i64 (j : Int)
def mks (M : List Bool) : Array Value := (M.map Value.bool).toArray
/-- the boxes of a run of 'reached' -/
structure RS (w0 : World) (n : Nat) (F : Value) (fB mB oB mR : Nat) (M : List Bool) (O : List Nat) (W : World) : Prop where
  fb : W.heap[fB]? = some (.cells #[F] 66)
  mb : W.heap[mB]? = some (.cells #[.slice (some ⟨mR, 0, none⟩) n n] 71)
  mr : W.heap[mR]? = some (.cells (mks M) 4)
  ml : M.length = n
  ob : ∃ v, W.heap[oB]? = some (.cells #[v] 91) ∧ W.ownsRow w0.heap.size 3 1 v O.length (ints O)
  bel : Below w0.heap.size w0 W
  lo : w0.heap.size ≤ mR ∧ w0.heap.size ≤ oB
theorem RS.up {w0 : World} {n : Nat} {F : Value} {fB mB oB mR : Nat} {M : List Bool} {O : List Nat} {W W' : World} (R : RS w0 n F fB mB oB mR M O W) (hb : Below W.heap.size W W') : RS w0 n F fB mB oB mR M O W' := by
  obtain ⟨v, h1, h2⟩ := R.ob
  refine ⟨(hb.block _ (lt_heap R.fb)).trans R.fb, (hb.block _ (lt_heap R.mb)).trans R.mb, (hb.block _ (lt_heap R.mr)).trans R.mr, R.ml, ⟨v, (hb.block _ (lt_heap h1)).trans h1, ?_⟩, below_on R.bel hb, R.lo⟩
  exact h2.kept (row := none) ⟨hb.os, hb.tape, hb.output, hb.size, fun k hk _ => hb.block k hk⟩ (by
    rcases h2.2 with ⟨rfl, _⟩ | ⟨g, cap, cur, rfl, _⟩
    · exact Or.inl rfl
    · exact Or.inr (fun e => by cases e))
def visM (L : List CI) (s : ByteArray) (M : List Bool) : List Bool := if fB L s = true ∧ M.getD (fI L s) true = false then M.set (fI L s) true else M
def visO (L : List CI) (s : ByteArray) (M : List Bool) (O : List Nat) : List Nat := if fB L s = true ∧ M.getD (fI L s) true = false then O ++ [fI L s] else O
/-- blocks of other types stay -/
def Stay (W W' : World) : Prop := W.heap.size ≤ W'.heap.size ∧ ∀ (k : Nat) (cs : Array Value) (t : TypeId), W.heap[k]? = some (Obj.cells cs t) → t ≠ 3 → t ≠ 91 → t ≠ 4 → W'.heap[k]? = some (Obj.cells cs t)
theorem Stay.refl (W : World) : Stay W W := ⟨Nat.le_refl _, fun _ _ _ h _ _ _ => h⟩
theorem Stay.trans {W W1 W2 : World} (h : Stay W W1) (k : Stay W1 W2) : Stay W W2 := ⟨Nat.le_trans h.1 k.1, fun a b c x h1 h2 h3 => k.2 a b c (h.2 a b c x h1 h2 h3) h1 h2 h3⟩
theorem Stay.of_below {W W' : World} (h : Below W.heap.size W W') : Stay W W' := ⟨h.size, fun k cs t x _ _ _ => (h.block _ (lt_heap x)).trans x⟩
def VisRet (w0 : World) (n : Nat) (F : Value) (fB mB oB mR : Nat) (M : List Bool) (O : List Nat) (W : World) (e : Ending) (W' : World) : Prop := e = .returned (.tuple #[]) ∧ RS w0 n F fB mB oB mR M O W' ∧ Stay W W'
theorem mark_at {W : World} {g : Nat} {M : List Bool} {i : Nat} {b : Bool} (h : W.heap[g]? = some (.cells (mks M) 4)) (hi : i < M.length) (hb : M.getD i true = b) : W.cell? ⟨g, i, none⟩ = some (.bool b) := by
  rw [List.getD_eq_getElem?_getD, List.getElem?_eq_getElem hi] at hb
  simp [World.cell?, h, mks, hi]
  exact hb
theorem mark_free {W : World} {g : Nat} {M : List Bool} (h : W.heap[g]? = some (.cells (mks M) 4)) (j : Nat) : W.frozen? ⟨g, j, none⟩ = false := by simp [World.frozen?, h]
theorem own_shape {w : World} {base e size n : Nat} {v : Value} {xs : List Value} (h : w.ownsRow base e size v n xs) : ∃ A c, v = .slice A n c ∧ n ≤ c ∧ c ≤ maxLen := by
  rcases h.2 with ⟨rfl, h0⟩ | ⟨g, cap, cur, rfl, _, _, h1, h2, _⟩
  · exact ⟨none, 0, by rw [h0], by omega, Nat.zero_le _⟩
  · exact ⟨_, cap, rfl, h1, h2⟩
theorem new_one (W : World) (x : Value) (t : TypeId) : ∀ j u, [x][j]? = some u → (W.alloc (.cells #[x] t)).cell? ((⟨W.heap.size, 0, none⟩ : Addr).add j) = some u := by
  intro j u hu
  cases j with
  | zero =>
    simp at hu
    subst hu
    have := cells_one (World.alloc_heap_new W (.cells #[x] t))
    rw [show ((⟨W.heap.size, 0, none⟩ : Addr).add 0) = ⟨W.heap.size, 0, none⟩ from rfl]
    exact this
  | succ j => simp at hu
theorem infoI : (Tryd.prog.info? 3).map (fun i => (i.zero, i.size, i.bytes)) = some (some (.int .i64 0), 1, 8) := by kernel_rfl
theorem ints_snoc (O : List Nat) (i : Nat) : ints O ++ [.int .i64 (i : Int)] = ints (O ++ [i]) := by unfold ints; simp
theorem RS.mark {w0 : World} {n : Nat} {F : Value} {fB mB oB mR i : Nat} {M : List Bool} {O : List Nat} {W : World} (R : RS w0 n F fB mB oB mR M O W) : RS w0 n F fB mB oB mR (M.set i true) O (W.setCell ⟨mR, i, none⟩ (.bool true)) ∧ Stay W (W.setCell ⟨mR, i, none⟩ (.bool true)) := by
  obtain ⟨v, h1, h2⟩ := R.ob
  have hmk : mks (M.set i true) = (mks M).setIfInBounds i (.bool true) := by unfold mks; simp [List.map_set]
  have ho : ∀ k, k ≠ mR → (W.setCell ⟨mR, i, none⟩ (.bool true)).heap[k]? = W.heap[k]? := fun k hk => heap_setCell_other W ⟨mR, i, none⟩ k _ hk
  have ne : ∀ {k : Nat} {cs : Array Value} {t : TypeId}, W.heap[k]? = some (.cells cs t) → t ≠ 4 → k ≠ mR := by
    rintro k cs t h ht rfl
    rw [R.mr] at h
    injection h with h
    injection h with _ h
    exact ht h.symm
  refine ⟨?_, by simp, fun k cs t h _ _ h3 => (ho _ (ne h h3)).trans h⟩
  refine ⟨(ho _ (ne R.fb (by decide))).trans R.fb, (ho _ (ne R.mb (by decide))).trans R.mb, ?_, by rw [List.length_set]; exact R.ml, ⟨v, (ho _ (ne h1 (by decide))).trans h1, ?_⟩, below_st R.bel R.lo.1 _, R.lo⟩
  · rw [hmk]; exact heap_setCell_same W mR i _ _ _ R.mr
  · rcases h2 with ⟨h3, h4⟩
    refine ⟨h3, h4.imp id ?_⟩
    rintro ⟨g, cap, cur, e1, e2, e3, e4⟩
    exact ⟨g, cap, cur, e1, e2, (ho _ (ne e3 (by decide))).trans e3, e4⟩
theorem RS.push {w0 : World} {n : Nat} {F : Value} {fB mB oB mR i : Nat} {M : List Bool} {O : List Nat} {W w3 : World} {v v' : Value} {o : Obj} (R : RS w0 n F fB mB oB mR M O W) (hv : W.heap[oB]? = some (.cells #[v] 91)) (ho : W.ownsRow w0.heap.size 3 1 v O.length (ints O))
    (h1 : w3.ownsRow w0.heap.size 3 1 v' (O.length + 1) (ints O ++ [.int .i64 (i : Int)])) (hg : (W.alloc o).grownBy w3 v.ownBlock) : RS w0 n F fB mB oB mR M (O ++ [i]) (w3.setCell ⟨oB, 0, none⟩ v') ∧ Stay W (w3.setCell ⟨oB, 0, none⟩ v') := by
  obtain ⟨b1, b2, b3, _, b4⟩ := Boxed.appended (tmp := o) hv (by decide) ho R.bel.size R.lo.2 h1 hg
  have ne : ∀ {k : Nat} {cs : Array Value} {t : TypeId}, W.heap[k]? = some (.cells cs t) → t ≠ 3 → t ≠ 91 → (w3.setCell ⟨oB, 0, none⟩ v').heap[k]? = some (.cells cs t) := by
    intro k cs t h ht ht2
    have hk : k ≠ oB := by
      rintro rfl
      rw [hv] at h
      injection h with h
      injection h with _ h
      exact ht2 h.symm
    have hk2 : some k ≠ v.ownBlock := by
      rcases ho.2 with ⟨rfl, _⟩ | ⟨g, cap, cur, rfl, _, e3, _⟩
      · simp [Value.ownBlock]
      · intro e
        obtain rfl : k = g := by simpa [Value.ownBlock] using e
        rw [e3] at h
        injection h with h
        injection h with _ h
        exact ht h.symm
    rw [heap_setCell_other w3 ⟨oB, 0, none⟩ k _ hk]
    exact (hg.block k (by simp; exact Nat.lt_succ_of_lt (lt_heap h)) hk2).trans (laid_old h)
  refine ⟨?_, b4.size, fun k cs t h h1 h2 _ => ne h h1 h2⟩
  refine ⟨ne R.fb (by decide) (by decide), ne R.mb (by decide) (by decide), ne R.mr (by decide) (by decide), R.ml, ⟨v', b2, ?_⟩, R.bel.trans b4, R.lo⟩
  rw [← ints_snoc, List.length_append]
  exact b3
set_option maxRecDepth 100000 in
set_option maxHeartbeats 2000000 in
theorem visit_any {w0 : World} {n : Nat} {F : Value} {bF bM bO mR : Nat} {M : List Bool} {O : List Nat} {W : World} (L : List CI) (s : ByteArray) (hF : Fd L F w0) (hn : L.length = n) (hs : s.size ≤ 9223372036854775807) (hO : O.length ≤ 2000000) (R : RS w0 n F bF bM bO mR M O W) :
    Calls Tryd.prog 93 #[.string s, .pointer (some ⟨bF, 0, none⟩), .pointer (some ⟨bM, 0, none⟩), .pointer (some ⟨bO, 0, none⟩)] W (VisRet w0 n F bF bM bO mR (visM L s M) (visO L s M O) W) := by
  obtain ⟨k, b, rfl, he, hcon⟩ := hF
  have hc : Calls Tryd.prog k #[.string s, .pointer (some ⟨b, 0, none⟩)] W fun e w' => e = .returned (.tuple #[.int .i64 (fI L s), .bool (fB L s)]) ∧ Below W.heap.size W w' := hcon s W hs R.bel
  have he' : ∀ (args : Array Value) (w : World), (callFunc k args).run Tryd.prog w = .ok (.enter k args) w := he
  clear hcon he
  have HR := Lib.hid R
  have f0 := cells_one R.fb
  clear R
  cases hf : fB L s with
  | false =>
    rw [hf] at hc
    have HC := Lib.hid hc
    have e1 : visM L s M = M := by unfold visM; rw [hf]; exact if_neg (fun h => by cases h.1)
    have e2 : visO L s M O = O := by unfold visO; rw [hf]; exact if_neg (fun h => by cases h.1)
    rw [e1, e2]
    clear hf hc e1 e2
    go_enter Tryd.func93, Tryd.ntmps93
    go_wp2_with (go_at_fn k; refine (HC.out).mono ?_; rintro e w1 ⟨rfl, hb1⟩; have HR1 := Lib.hid (HR.out.up hb1); have HS1 := Lib.hid (Stay.of_below hb1); clear hb1)
    go_end0
    exact ⟨rfl, HR1.out, HS1.out⟩
  | true =>
    rw [hf] at hc
    have HC := Lib.hid hc
    have hi : fI L s < n := by
      unfold fB at hf
      have := of_decide_eq_true hf
      unfold fI
      rw [if_pos this]; omega
    have hM : fI L s < M.length := by rw [HR.out.ml]; exact hi
    obtain ⟨i, hI⟩ : ∃ i, fI L s = i := ⟨_, rfl⟩
    cases hm : M.getD i true with
    | true =>
      have e1 : visM L s M = M := by unfold visM; rw [hI, hm]; exact if_neg (fun h => by cases h.2)
      have e2 : visO L s M O = O := by unfold visO; rw [hI, hm]; exact if_neg (fun h => by cases h.2)
      rw [e1, e2]
      have HM := Lib.hid hm
      rw [hI] at HC hi hM
      clear hf hc e1 e2 hI hm
      go_enter Tryd.func93, Tryd.ntmps93
      go_wp2_with (go_at_fn k; refine (HC.out).mono ?_; rintro e w1 ⟨rfl, hb1⟩; have HR1 := Lib.hid (HR.out.up hb1); have HS1 := Lib.hid (Stay.of_below hb1); have m0 := cells_one HR1.out.mb; have m1 := mark_at HR1.out.mr hM HM.out; clear hb1)
      go_end0
      exact ⟨rfl, HR1.out, HS1.out⟩
    | false =>
      have e1 : visM L s M = M.set i true := by unfold visM; rw [hI, hm]; exact if_pos ⟨hf, rfl⟩
      have e2 : visO L s M O = O ++ [i] := by unfold visO; rw [hI, hm]; exact if_pos ⟨hf, rfl⟩
      rw [e1, e2]
      have HM := Lib.hid hm
      rw [hI] at HC hi hM
      clear hf hc e1 e2 hI hm
      go_enter Tryd.func93, Tryd.ntmps93
      obtain ⟨i0, hi0, hz0, hz1, hz2⟩ := info_parts infoI
      go_upto_region 3 with (go_at_fn k; refine (HC.out).mono ?_; rintro e w1 ⟨rfl, hb1⟩; have HR1 := Lib.hid (HR.out.up hb1); have HS1 := Lib.hid (Stay.of_below hb1); have m0 := cells_one HR1.out.mb; have m1 := mark_at HR1.out.mr hM HM.out; have m2 := mark_free HR1.out.mr i; clear hb1)
      have R2' := HR1.out.mark (i := i)
      have R2 := R2'.1
      have HS2 := Lib.hid (HS1.out.trans R2'.2)
      clear m0 m1 m2 R2'
      generalize w1.setCell ⟨mR, i, none⟩ (.bool true) = W2 at R2 HS2 ⊢
      obtain ⟨v, hv, ho⟩ := R2.ob
      obtain ⟨A', c', rfl, hc1, hc2⟩ := own_shape ho
      have o0 := cells_one hv
      have HR2 := Lib.hid R2
      have HV := Lib.hid hv
      have HO := Lib.hid ho
      have hsz := Lib.hid R2.bel.size
      clear R2 hv ho
      go_wp2_with (at_builtin; refine wpList_append_own _ rfl _ _ 91 rfl w0.heap.size 3 i0 (.int .i64 0) 1 8 Tryd.underlying91 hi0 hz0 hz1 hz2 rfl (by decide) (.slice A' O.length c') O.length (ints O) rfl (HO.out.alloc _) ⟨W2.heap.size, 0, none⟩ 1 1 [.int .i64 i] rfl rfl ?c1 ?c2 ?c3 ?c4 ?c5 ?_)
      case c1 => exact new_one _ _ _
      case c2 => intro u hu; simp at hu; subst hu; rfl
      case c3 => unfold maxLen; omega
      case c4 => omega
      case c5 => have := hsz.out; simp; omega
      intro v' w3 hown hgrow _
      have J := Lib.hid (HR2.out.push HV.out HO.out hown hgrow)
      obtain ⟨g', cap', rfl⟩ := ownsRow_succ hown
      have hb1 := Boxed.appended HV.out (by decide) HO.out hsz.out HR2.out.lo.2 hown hgrow
      have q1 := hb1.1.cell
      have q2 := hb1.1.frozen
      clear hb1 hown hgrow
      go_wp2
      go_end0
      exact ⟨rfl, J.out.1, HS2.out.trans J.out.2⟩
end Go.Proofs.YthifmcnemeiphaaDoor
