import Derived.Test.YtalejaklggnnpaaGreatDoorKitS
import Derived.Test.YtalejaklggnnpaaGreatDoorRow
import Derived.Deep.AppendLies
/- Layer 8: the reader's number. -/
namespace Go.Proofs.YtalejaklggnnpaaGreatDoor.I
open Go.ChangeShapes Go.WideShapes Go.ChangeAt Go.RowKit Go.PlainAid
set_option linter.unusedSimpArgs false
set_option linter.unusedVariables false
/-- a reader in memory -/
def Rd (w : World) (g : Nat) (s : ByteArray) (p : Int) (sh : Bool) : Prop := w.heap[g]? = some (.cells #[.string s, .int .i64 p, .bool sh] 183)
end Go.Proofs.YtalejaklggnnpaaGreatDoor.I
/- Layer 8: rows of instructions of a call's own. -/
namespace Go.Proofs.YtalejaklggnnpaaGreatDoor.I
open Go.ChangeShapes Go.WideShapes Go.ChangeAt Go.RowKit Go.PlainAid
set_option linter.unusedSimpArgs false
set_option linter.unusedVariables false
def icells (i : In) : List Value := [.int .i64 i.op, .int .i64 i.a, .int .i64 i.b, .int .i64 i.t, .slice i.kA i.kn i.kc, .slice i.tA i.tn i.tc, .string i.r1, .string i.r2, .string i.r3, .string i.s]
def irow (L : List In) : List Value := L.flatMap icells
theorem irow_cons (q : In) (ps : List In) : irow (q :: ps) = icells q ++ irow ps := by unfold irow; rw [List.flatMap_cons]
theorem irow_len (ps : List In) : (irow ps).length = ps.length * 10 := by
 induction ps with
 | nil => rfl
 | cons p ps ih => rw [irow_cons, List.length_append, ih, List.length_cons]; simp [icells]; omega
theorem irow_at : ∀ (ps : List In) (k j : Nat) (p : In), j < 10 → ps[k]? = some p → (irow ps)[k * 10 + j]? = (icells p)[j]?
 | [], k, j, p, _, h => by simp at h
 | q :: ps, 0, j, p, hj, h => by
  simp at h; subst h
  rw [irow_cons, Nat.zero_mul, Nat.zero_add, List.getElem?_append_left (by simpa [icells] using hj)]
 | q :: ps, k + 1, j, p, hj, h => by
  have ih := irow_at ps k j p hj (by simpa using h)
  have l10 : (icells q).length = 10 := rfl
  rw [irow_cons, List.getElem?_append_right (by omega), l10, show (k + 1) * 10 + j - 10 = k * 10 + j by omega]
  exact ih
theorem Ins.of_own {w : World} {base e n c : Nat} {A : Option Addr} {L : List In} (h : w.ownsRow base e 10 (.slice A n c) n (irow L)) (hok : ∀ i ∈ L, i.ok w w.heap.size) : Ins w w.heap.size A L ∧ L.length = n := by
 have hn : L.length = n := by have := h.1; rw [irow_len] at this; omega
 refine ⟨?_, hn⟩
 rcases Nat.eq_zero_or_pos n with h0 | h0
 ·
  exact Or.inl (List.eq_nil_of_length_eq_zero (by omega))
 ·
  obtain ⟨g, cap, hv, _, hlt⟩ := h.form h0
  have hA : A = some ⟨g, 0, none⟩ := by injection hv
  subst hA
  have hcap : c = cap := by injection hv
  subst hcap
  refine Or.inr ⟨g, 0, rfl, hlt, fun k i hk => ?_⟩
  have hkl : k < L.length := by
   rcases Nat.lt_or_ge k L.length with h | h
   ·
    exact h
   ·
    rw [List.getElem?_eq_none h] at hk; cases hk
  have at' : ∀ j v, j < 10 → (icells i)[j]? = some v → w.cell? ⟨g, 0 + k * 10 + j, none⟩ = some v := by
   intro j v hj hv
   rw [Nat.zero_add, h.cellAt _ (by omega), irow_at L k j i hj hk, hv]
  exact ⟨hok i (List.mem_of_getElem? hk), at' 0 _ (by decide) rfl, at' 1 _ (by decide) rfl, at' 2 _ (by decide) rfl, at' 3 _ (by decide) rfl, at' 4 _ (by decide) rfl, at' 5 _ (by decide) rfl, at' 6 _ (by decide) rfl, at' 7 _ (by decide) rfl, at' 8 _ (by decide) rfl, at' 9 _ (by decide) rfl⟩
end Go.Proofs.YtalejaklggnnpaaGreatDoor.I
/- Rows of numbers: where a grown row lies. -/
namespace Go.Proofs.YtalejaklggnnpaaGreatDoor.I
open Go.ChangeShapes Go.WideShapes Go.ChangeAt Go.RowKit Go.PlainAid
set_option linter.unusedSimpArgs false
set_option linter.unusedVariables false
/-- two rows apart -/
def Apt (v v2 : Value) : Prop := v.ownBlock = none ∨ v.ownBlock ≠ v2.ownBlock
theorem Apt.kept {W w4 : World} {B e n : Nat} {v v2 : Value} {xs : List Value} (h : Apt v v2) (h2 : W.ownsRow B e 1 v2 n xs) (hg : W.grownBy w4 v.ownBlock) : w4.ownsRow B e 1 v2 n xs := by
 refine h2.kept hg ?_
 rcases h with h | h
 ·
  rw [h]; exact Classical.em _
 ·
  exact Or.inr (fun e => h e.symm)
end Go.Proofs.YtalejaklggnnpaaGreatDoor.I
/- Layer 8: Targets, in the package and in its reference. -/
namespace Go.Proofs.YtalejaklggnnpaaGreatDoor.I
open Go.ChangeShapes Go.WideShapes Go.ChangeAt Go.RowKit Go.PlainAid
set_option linter.unusedSimpArgs false
set_option linter.unusedVariables false
def tgL (i : In) : List Int := if brB i.op = true then i.t :: i.ts else []
set_option maxRecDepth 100000 in
set_option maxHeartbeats 2000000 in
theorem tg_any (i : In) (w : World) (hok : i.ok w w.heap.size) (hz : i.nz) (hs : i.tn ≤ 17592186043904) : Calls Tryz.prog 55 #[(Value.agg #[Value.int IntKind.i64 (In.op i), Value.int IntKind.i64 (In.a i), Value.int IntKind.i64 (In.b i), Value.int IntKind.i64 (In.t i), Value.slice (In.kA i) (In.kn i) (In.kc i), Value.slice (In.tA i) (In.tn i) (In.tc i), Value.string (In.r1 i), Value.string (In.r2 i), Value.string (In.r3 i), Value.string (In.s i)])] w (IntsRet w (tgL i)) := by
 have hB : Below w.heap.size w w := Below.refl _ _
 have OK := Lib.hid hok
 have HZ := Lib.hid hz
 clear hok hz
 cases hb : brB i.op with
 | false =>
  rw [show tgL i = [] by unfold tgL; rw [hb]; rfl]
  have HBR := Lib.hid hb
  clear hb
  go_enter Tryz.func55, Tryz.ntmps55
  go_upto_region 1 with fail
  have R := World.alloc_heap_new w (.cells #[.int .i64 i.op, .int .i64 i.a, .int .i64 i.b, .int .i64 i.t, .slice i.kA i.kn i.kc, .slice i.tA i.tn i.tc, .string i.r1, .string i.r2, .string i.r3, .string i.s] 50)
  replace hB := below_al hB (.cells #[.int .i64 i.op, .int .i64 i.a, .int .i64 i.b, .int .i64 i.t, .slice i.kA i.kn i.kc, .slice i.tA i.tn i.tc, .string i.r1, .string i.r2, .string i.r3, .string i.s] 50)
  generalize w.alloc (.cells #[.int .i64 i.op, .int .i64 i.a, .int .i64 i.b, .int .i64 i.t, .slice i.kA i.kn i.kc, .slice i.tA i.tn i.tc, .string i.r1, .string i.r2, .string i.r3, .string i.s] 50) = W1 at R hB ⊢
  obtain ⟨r0, r1, r2, r3, r4, r5, r6, r7, r8, r9⟩ := ten_cells R
  have y1 := lt_heap R
  replace R := Lib.hid R
  go_wp2_with (go_at_call 56; refine (br_any _ _).mono ?_; rintro e w' ⟨rfl, rfl⟩; rw [HBR.out])
  go_ret
  exact ints_nil w (by repeat (first | with_reducible exact hB | with_reducible exact Below.refl _ _ | with_reducible refine below_al ?_ _ | with_reducible refine below_st ?_ (by first | exact Nat.le_refl _ | exact Nat.le_add_right _ _ | (simp; omega)) _))
 | true =>
  rw [show tgL i = [i.t] ++ i.ts by unfold tgL; rw [hb]; rfl]
  have HBR := Lib.hid hb
  clear hb
  go_enter Tryz.func55, Tryz.ntmps55
  go_upto_region 1 with fail
  have R := World.alloc_heap_new w (.cells #[.int .i64 i.op, .int .i64 i.a, .int .i64 i.b, .int .i64 i.t, .slice i.kA i.kn i.kc, .slice i.tA i.tn i.tc, .string i.r1, .string i.r2, .string i.r3, .string i.s] 50)
  replace hB := below_al hB (.cells #[.int .i64 i.op, .int .i64 i.a, .int .i64 i.b, .int .i64 i.t, .slice i.kA i.kn i.kc, .slice i.tA i.tn i.tc, .string i.r1, .string i.r2, .string i.r3, .string i.s] 50)
  generalize w.alloc (.cells #[.int .i64 i.op, .int .i64 i.a, .int .i64 i.b, .int .i64 i.t, .slice i.kA i.kn i.kc, .slice i.tA i.tn i.tc, .string i.r1, .string i.r2, .string i.r3, .string i.s] 50) = W1 at R hB ⊢
  obtain ⟨r0, r1, r2, r3, r4, r5, r6, r7, r8, r9⟩ := ten_cells R
  have y1 := lt_heap R
  replace R := Lib.hid R
  have OK1 := Lib.hid (((OK.out.up hB).below (Below.alloc (Below.refl _ W1) (Nat.le_refl _) (.cells #[.int .i64 i.t] 3))))
  have HO := Lib.hid (own_one (w := W1) i.t (base := w.heap.size) hB.size)
  go_wp2_with (first | (go_at_call 56; refine (br_any _ _).mono ?_; rintro e w' ⟨rfl, rfl⟩; rw [HBR.out]) | (at_builtin; refine wpList_append_ints (by rfl) _ _ (by rfl) w.heap.size 1 i.tn i.tc W1.heap.size [i.t] i.ts _ i.tA (by rfl) HO.out (by rfl) OK1.out.2.2.2.2.2.2.2 OK1.out.2.2.2.2.1 HZ.out.2 (by omega) (by simp; omega) ?_; intro v' w2 ho hgr))
  go_ret
  refine ints_own ho (Below.trans (below_al hB _) (grown_below hgr (fun k hk => ?_) (below_al hB _).size))
  have hk : W1.heap.size = k := by injection hk
  rw [← hk]
  exact hB.size
set_option maxRecDepth 100000 in
set_option maxHeartbeats 2000000 in
theorem rtg_any (i : In) (w : World) (hok : i.ok w w.heap.size) (hz : i.nz) (hs : i.tn ≤ 17592186043904) : Calls Tryz.prog 70 #[(Value.agg #[Value.int IntKind.i64 (In.op i), Value.int IntKind.i64 (In.a i), Value.int IntKind.i64 (In.b i), Value.int IntKind.i64 (In.t i), Value.slice (In.kA i) (In.kn i) (In.kc i), Value.slice (In.tA i) (In.tn i) (In.tc i), Value.string (In.r1 i), Value.string (In.r2 i), Value.string (In.r3 i), Value.string (In.s i)])] w (IntsRet w (tgL i)) := by
 have hB : Below w.heap.size w w := Below.refl _ _
 have OK := Lib.hid hok
 have HZ := Lib.hid hz
 clear hok hz
 cases hb : brB i.op with
 | false =>
  rw [show tgL i = [] by unfold tgL; rw [hb]; rfl]
  have HBR := Lib.hid hb
  clear hb
  go_enter Tryz.func70, Tryz.ntmps70
  go_upto_region 1 with fail
  have R := World.alloc_heap_new w (.cells #[.int .i64 i.op, .int .i64 i.a, .int .i64 i.b, .int .i64 i.t, .slice i.kA i.kn i.kc, .slice i.tA i.tn i.tc, .string i.r1, .string i.r2, .string i.r3, .string i.s] 50)
  replace hB := below_al hB (.cells #[.int .i64 i.op, .int .i64 i.a, .int .i64 i.b, .int .i64 i.t, .slice i.kA i.kn i.kc, .slice i.tA i.tn i.tc, .string i.r1, .string i.r2, .string i.r3, .string i.s] 50)
  generalize w.alloc (.cells #[.int .i64 i.op, .int .i64 i.a, .int .i64 i.b, .int .i64 i.t, .slice i.kA i.kn i.kc, .slice i.tA i.tn i.tc, .string i.r1, .string i.r2, .string i.r3, .string i.s] 50) = W1 at R hB ⊢
  obtain ⟨r0, r1, r2, r3, r4, r5, r6, r7, r8, r9⟩ := ten_cells R
  have y1 := lt_heap R
  replace R := Lib.hid R
  go_wp2_with (go_at_call 94; refine (rbr_any _ _).mono ?_; rintro e w' ⟨rfl, rfl⟩; rw [HBR.out])
  go_ret
  exact ints_nil w (by repeat (first | with_reducible exact hB | with_reducible exact Below.refl _ _ | with_reducible refine below_al ?_ _ | with_reducible refine below_st ?_ (by first | exact Nat.le_refl _ | exact Nat.le_add_right _ _ | (simp; omega)) _))
 | true =>
  rw [show tgL i = [i.t] ++ i.ts by unfold tgL; rw [hb]; rfl]
  have HBR := Lib.hid hb
  clear hb
  go_enter Tryz.func70, Tryz.ntmps70
  go_upto_region 1 with fail
  have R := World.alloc_heap_new w (.cells #[.int .i64 i.op, .int .i64 i.a, .int .i64 i.b, .int .i64 i.t, .slice i.kA i.kn i.kc, .slice i.tA i.tn i.tc, .string i.r1, .string i.r2, .string i.r3, .string i.s] 50)
  replace hB := below_al hB (.cells #[.int .i64 i.op, .int .i64 i.a, .int .i64 i.b, .int .i64 i.t, .slice i.kA i.kn i.kc, .slice i.tA i.tn i.tc, .string i.r1, .string i.r2, .string i.r3, .string i.s] 50)
  generalize w.alloc (.cells #[.int .i64 i.op, .int .i64 i.a, .int .i64 i.b, .int .i64 i.t, .slice i.kA i.kn i.kc, .slice i.tA i.tn i.tc, .string i.r1, .string i.r2, .string i.r3, .string i.s] 50) = W1 at R hB ⊢
  obtain ⟨r0, r1, r2, r3, r4, r5, r6, r7, r8, r9⟩ := ten_cells R
  have y1 := lt_heap R
  replace R := Lib.hid R
  have OK1 := Lib.hid (((OK.out.up hB).below (Below.alloc (Below.refl _ W1) (Nat.le_refl _) (.cells #[.int .i64 i.t] 3))))
  have HO := Lib.hid (own_one (w := W1) i.t (base := w.heap.size) hB.size)
  go_wp2_with (first | (go_at_call 94; refine (rbr_any _ _).mono ?_; rintro e w' ⟨rfl, rfl⟩; rw [HBR.out]) | (at_builtin; refine wpList_append_ints (by rfl) _ _ (by rfl) w.heap.size 1 i.tn i.tc W1.heap.size [i.t] i.ts _ i.tA (by rfl) HO.out (by rfl) OK1.out.2.2.2.2.2.2.2 OK1.out.2.2.2.2.1 HZ.out.2 (by omega) (by simp; omega) ?_; intro v' w2 ho hgr))
  go_ret
  refine ints_own ho (Below.trans (below_al hB _) (grown_below hgr (fun k hk => ?_) (below_al hB _).size))
  have hk : W1.heap.size = k := by injection hk
  rw [← hk]
  exact hB.size
end Go.Proofs.YtalejaklggnnpaaGreatDoor.I
