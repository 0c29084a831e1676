import Derived.Test.YtalejaklggnnpaaGreatDoorCa
/- Layer 9: BranchTargets of the reference. -/
namespace Go.Proofs.YtalejaklggnnpaaGreatDoor.I
open Go.ChangeShapes Go.WideShapes Go.ChangeAt Go.RowKit Go.PlainAid
set_option linter.unusedSimpArgs false
set_option linter.unusedVariables false
end Go.Proofs.YtalejaklggnnpaaGreatDoor.I
/- Layer 9: BlockStarts, in the package and in its reference. -/
namespace Go.Proofs.YtalejaklggnnpaaGreatDoor.I
open Go.ChangeShapes Go.WideShapes Go.ChangeAt Go.RowKit Go.PlainAid
set_option linter.unusedSimpArgs false
set_option linter.unusedVariables false
def bsP (c : Cd) : Nat → Bool
 | 0 => true
 | k + 1 => (btL c).getD (k + 1) false || (match c.is[k]? with | some i => brB i.op || termB i.op | none => false)
theorem bsP_at {c : Cd} {k : Nat} {b : Bool} {i : In} (hb : (btL c)[k + 1]? = some b) (hi : c.is[k]? = some i) : bsP c (k + 1) = (b || (brB i.op || termB i.op)) := by
 show ((btL c).getD (k + 1) false || (match c.is[k]? with | some i => brB i.op || termB i.op | none => false)) = _
 rw [hi, List.getD_eq_getElem?_getD, hb]; rfl
def bsL (c : Cd) : List Int := rowsI (bsP c) c.n
theorem Nxt.ret {w W wr : World} {L : List Int} {v : Value} (hb : Below w.heap.size w W) (N : Nxt W wr L v) : IntsOwn w L (.returned v) wr := own_up hb N.own N.bel
theorem Nxt.yes {W wr w4 : World} {P : Nat → Bool} {k : Nat} {v v' : Value} {o : Obj} (N : Nxt W wr (rowsI P k) v) (hp : P k = true) (ho : w4.ownsRow W.heap.size 3 1 v' ((rowsI P k).length + 1) (Ri (rowsI P k ++ [(k : Int)]))) (hg : (wr.alloc o).grownBy w4 v.ownBlock) : Nxt W w4 (rowsI P (k + 1)) v' := by
 rw [rowsI_succ, hp, if_pos rfl]
 exact N.add ho hg
theorem Nxt.no {W wr : World} {P : Nat → Bool} {k : Nat} {v : Value} (N : Nxt W wr (rowsI P k) v) (hp : P k = false) : Nxt W wr (rowsI P (k + 1)) v := by
 rw [rowsI_succ, hp, if_neg (by decide), List.append_nil]
 exact N
set_option maxRecDepth 100000 in
set_option maxHeartbeats 4000000 in
theorem bs_any (c : Cd) (w : World) (hok : c.c9 w) : Calls Tryz.prog 22 #[(Value.agg #[Value.int IntKind.i64 (Cd.st c), Value.int IntKind.i64 (Cd.lo c), Value.slice (Cd.iA c) (Cd.n c) (Cd.ic c), Value.slice (Cd.hA c) (Cd.hn c) (Cd.hc c), Value.slice (Cd.mA c) (Cd.mn c) (Cd.mc c), Value.slice (Cd.lA c) (Cd.ln c) (Cd.lc c)])] w (IntsOwn w (bsL c)) := by
 have hB : Below w.heap.size w w := Below.refl _ _
 have OK := Lib.hid hok
 have hcn := hok.ib
 clear hok
 go_enter Tryz.func22, Tryz.ntmps22
 go_upto_region 1 with fail
 have R := World.alloc_heap_new w (.cells #[.int .i64 c.st, .int .i64 c.lo, .slice c.iA c.n c.ic, .slice c.hA c.hn c.hc, .slice c.mA c.mn c.mc, .slice c.lA c.ln c.lc] 28)
 replace hB := below_al hB (.cells #[.int .i64 c.st, .int .i64 c.lo, .slice c.iA c.n c.ic, .slice c.hA c.hn c.hc, .slice c.mA c.mn c.mc, .slice c.lA c.ln c.lc] 28)
 generalize w.alloc (.cells #[.int .i64 c.st, .int .i64 c.lo, .slice c.iA c.n c.ic, .slice c.hA c.hn c.hc, .slice c.mA c.mn c.mc, .slice c.lA c.ln c.lc] 28) = W1 at R hB ⊢
 obtain ⟨r0, r1, r2, r3, r4, r5⟩ := six_cells R
 have y1 := lt_heap R
 replace R := Lib.hid R
 have OK1 := Lib.hid (OK.out.up hB)
 have HB := Lib.hid hB
 clear hB
 obtain ⟨A, hA⟩ : ∃ A, c.iA = A := ⟨_, rfl⟩
 have HA := Lib.hid hA
 clear hA
 go_upto_region 3 with (go_at_call 21; (with_reducible refine (bt_any c _ OK1.out).mono ?_); rintro e W2 ⟨Wm, rfl, hm, hb2⟩)
 have HM := Lib.hid hm
 have hbW := below_on hb2 (hm.bel)
 have HB2 := Lib.hid (below_on HB.out hbW)
 have OK2 := Lib.hid (OK1.out.up hbW)
 have RB := Lib.hid ((hbW.block _ y1).trans R.out)
 clear r0 r1 r2 r3 r4 r5 hm hb2 hbW
 go_loopw [3, 9] (fun v z wr => ∃ k : Nat, k ≤ c.n ∧ z = .int .i64 k ∧ Nxt W2 wr (rowsI (bsP c) k) v) (fun _ z _ => c.n - (intOf z).toNat)
 case atStart => exact ⟨0, Nat.zero_le _, rfl, Nxt.start⟩
 case round =>
  obtain ⟨k, hk, rfl, N⟩ := hrel
  have HNX := Lib.hid N
  have HMr := Lib.hid (HM.out.up N.bel)
  have OKr := Lib.hid (OK2.out.up N.bel)
  have RBr := Lib.hid ((N.bel.block _ (lt_heap RB.out)).trans RB.out)
  have hln := rowsI_len (bsP c) k
  have hzr := N.bel.size
  obtain ⟨q, hq⟩ : ∃ q, (rowsI (bsP c) k).length = q := ⟨_, rfl⟩
  rw [hq] at hln
  have HQ := Lib.hid hq
  have hown := N.own
  rw [hq] at hown
  have HOWN := Lib.hid hown
  clear N hq hown
  by_cases hlt : k < c.n
  ·
   obtain ⟨b, hb⟩ := get_someF (l := btL c) (k := k) (by rw [btL_len]; exact hlt)
   have hcb := HMr.out.cell hb
   have hsz := HMr.out.sz
   have hk0 : (0 : Int) ≤ (k : Int) := by omega
   have hk1 : (k : Int) < (c.n : Int) := by omega
   obtain ⟨r0, r1, r2, r3, r4, r5⟩ := six_cells RBr.out
   have yr := lt_heap RBr.out
   rw [HA.out] at r2
   cases k with
   | zero =>
    go_wp2_with (at_builtin; refine wpList_append_ints (by rfl) _ _ (by rfl) W2.heap.size q 1 1 (wr.heap.size + 1) _ [((0 : Nat) : Int)] _ _ (by rfl) (HOWN.out.alloc _) (by rfl) (Row.one (ten_cell0 (new_at rfl)) (by omega)) rfl (fun h => by cases h) (by omega) (by simp; omega) ?_; intro v4 w4 ho4 hg4)
    exact ⟨⟨0 + 1, hlt, by go_num, HNX.out.yes rfl (by rw [HQ.out]; exact ho4) hg4⟩, by simp [intOf]; omega⟩
   | succ m =>
    obtain ⟨i, hi⟩ := get_someF (l := c.is) (k := m) (by rw [OKr.out.il]; omega)
    have hiw := OKr.out.iw
    rw [HA.out] at hiw
    have HP := Lib.hid (bsP_at hb hi)
    rcases hiw with h0 | ⟨g, o, rfl, hg, hcell⟩
    ·
     rw [h0] at hi; simp at hi
    ·
     obtain ⟨_, a0, _⟩ := hcell m _ hi
     have hw1 : IntKind.i64.wrap ((m : Int) + 1 - 1) = (m : Int) := by simp [IntKind.wrap, IntKind.bits, IntKind.signed]; omega
     have hm0 : (0 : Int) ≤ (m : Int) := by omega
     have hm1 : (m : Int) < (c.n : Int) := by omega
     have hne : ((m : Int) + 1 == 0) = false := by simp; omega
     rw [Int.natCast_add, Int.natCast_one] at hk0 hk1 ⊢
     clear hcell hi hb
     cases b with
     | true =>
      go_wp2_with (at_builtin; refine wpList_append_ints (by rfl) _ _ (by rfl) W2.heap.size q 1 1 (wr.heap.size + 1) _ [((m : Nat) : Int) + 1] _ _ (by rfl) (HOWN.out.alloc _) (by rfl) (Row.one (ten_cell0 (new_at rfl)) (by omega)) rfl (fun h => by cases h) (by omega) (by simp; omega) ?_; intro v4 w4 ho4 hg4)
      exact ⟨⟨m + 1 + 1, hlt, by go_num, HNX.out.yes (by rw [HP.out]; first | rfl | simp) (by rw [HQ.out]; exact ho4) hg4⟩, by simp [intOf]; omega⟩
     | false =>
      cases hbr : brB i.op with
      | true =>
       have HBR := Lib.hid hbr
       rw [hbr] at HP
       clear hbr
       go_wp2_with (first | (go_at_call 56; refine (br_any _ _).mono ?_; rintro e w' ⟨rfl, rfl⟩; rw [HBR.out]) | (at_builtin; refine wpList_append_ints (by rfl) _ _ (by rfl) W2.heap.size q 1 1 (wr.heap.size + 1) _ [((m : Nat) : Int) + 1] _ _ (by rfl) (HOWN.out.alloc _) (by rfl) (Row.one (ten_cell0 (new_at rfl)) (by omega)) rfl (fun h => by cases h) (by omega) (by simp; omega) ?_; intro v4 w4 ho4 hg4))
       exact ⟨⟨m + 1 + 1, hlt, by go_num, HNX.out.yes (by rw [HP.out]; first | rfl | simp) (by rw [HQ.out]; exact ho4) hg4⟩, by simp [intOf]; omega⟩
      | false =>
       have HBR := Lib.hid hbr
       rw [hbr] at HP
       clear hbr
       cases htm : termB i.op with
       | true =>
        have HTM := Lib.hid htm
        rw [htm] at HP
        clear htm
        go_wp2_with (first | (go_at_call 56; refine (br_any _ _).mono ?_; rintro e w' ⟨rfl, rfl⟩; rw [HBR.out]) | (go_at_call 25; refine (term_any _ _).mono ?_; rintro e w' ⟨rfl, rfl⟩; rw [HTM.out]) | (at_builtin; refine wpList_append_ints (by rfl) _ _ (by rfl) W2.heap.size q 1 1 (wr.heap.size + 1) _ [((m : Nat) : Int) + 1] _ _ (by rfl) (HOWN.out.alloc _) (by rfl) (Row.one (ten_cell0 (new_at rfl)) (by omega)) rfl (fun h => by cases h) (by omega) (by simp; omega) ?_; intro v4 w4 ho4 hg4))
        exact ⟨⟨m + 1 + 1, hlt, by go_num, HNX.out.yes (by rw [HP.out]; first | rfl | simp) (by rw [HQ.out]; exact ho4) hg4⟩, by simp [intOf]; omega⟩
       | false =>
        have HTM := Lib.hid htm
        rw [htm] at HP
        clear htm
        go_wp2_with (first | (go_at_call 56; refine (br_any _ _).mono ?_; rintro e w' ⟨rfl, rfl⟩; rw [HBR.out]) | (go_at_call 25; refine (term_any _ _).mono ?_; rintro e w' ⟨rfl, rfl⟩; rw [HTM.out]))
        exact ⟨⟨m + 1 + 1, hlt, by go_num, HNX.out.no HP.out⟩, by simp [intOf]; omega⟩
  ·
   obtain ⟨hnk⟩ : c.n = k := by omega
   go_wp2
   go_ret
   exact HNX.out.ret HB2.out
end Go.Proofs.YtalejaklggnnpaaGreatDoor.I
