/- Layer 19: the reference's Predecessors. -/
import Derived.Test.YtpghkdmljanncaaFj
import Derived.Test.YtpghkdmljanncaaFga
import Derived.Test.YtpghkdmljanncaaReg
import Derived.BigQuiet
namespace Go.Proofs.Ytpghkdmljanncaa
open Go.ChangeShapes Go.WideShapes Go.ChangeAt Go.RowKit Go.PlainAid
set_option linter.unusedSimpArgs false
set_option linter.unusedVariables false

theorem Pd.put {W wr w4 : World} {n t : Nat} {vs : List Value} {Ls : List (List Int)} {v' : Value} {L : List Int} (h : Pd W wr n vs Ls) (ht : t < n) (hb : Below wr.heap.size wr w4) (ho : w4.ownsRow wr.heap.size 3 1 v' L.length (Ri L)) :
    Pd W (w4.setCell ⟨W.heap.size, t, none⟩ v') n (vs.set t v') (Ls.set t L) := by
  have hout4 := own_below h.out hb
  have hst := hout4.stored t v'
  have hbel4 : Below W.heap.size W w4 := below_on h.bel hb
  have nout : ∀ (B : Nat) (u : Value) (k : Nat) (xs : List Value), w4.ownsRow B 3 1 u k xs → u.ownBlock ≠ some W.heap.size := fun B u k xs hu e => own_typesF hu hout4 neL e rfl
  have fresh : ∀ (u' : Value) (k : Nat) (xs : List Value), wr.ownsRow W.heap.size 3 1 u' k xs → Apt v' u' := fun u' k xs hu => by
    cases hv : v'.ownBlock with
    | none => exact Or.inl hv
    | some b =>
      refine Or.inr (fun e => ?_)
      rw [hv] at e
      have := (ho.lt b hv).1
      have := (hu.lt b e.symm).2
      omega
  refine ⟨hst.1, by rw [List.length_set]; exact h.ll, ?_, ?_, below_st (p := ⟨W.heap.size, t, none⟩) hbel4 (Nat.le_refl _) _⟩
  · intro i u M hu hM
    rw [List.getElem?_set] at hu hM
    by_cases e : t = i
    · subst e
      rw [if_pos rfl] at hu hM
      split at hu
      · split at hM
        · obtain rfl := Option.some.inj hu
          obtain rfl := Option.some.inj hM
          exact own_leF (ho.kept hst.2 (Or.inr (nout _ _ _ _ ho))) h.bel.size
        · cases hM
      · cases hu
    · rw [if_neg e] at hu hM
      have h4 := own_below (h.own i u M hu hM) hb
      exact h4.kept hst.2 (Or.inr (nout _ _ _ _ h4))
  · intro i j u u' hij hu hu'
    rw [List.getElem?_set] at hu hu'
    have sym : ∀ a b : Value, Apt a b → Apt b a := fun a b hab => by
      rcases hab with hab | hab
      · cases hb : b.ownBlock with
        | none => exact Or.inl hb
        | some y => exact Or.inr (by rw [hab, hb]; exact fun e => by cases e)
      · exact Or.inr (fun e => hab e.symm)
    by_cases e : t = i
    · subst e
      rw [if_pos rfl] at hu
      rw [if_neg hij] at hu'
      split at hu
      · obtain rfl := Option.some.inj hu
        obtain ⟨M, hM⟩ := get_someF (l := Ls) (k := j) (by have := get_ltF hu'; have := h.vl; have := h.ll; omega)
        exact fresh _ _ _ (h.own j u' M hu' hM)
      · cases hu
    · rw [if_neg e] at hu
      by_cases e2 : t = j
      · subst e2
        rw [if_pos rfl] at hu'
        split at hu'
        · obtain rfl := Option.some.inj hu'
          obtain ⟨M, hM⟩ := get_someF (l := Ls) (k := i) (by have := get_ltF hu; have := h.vl; have := h.ll; omega)
          exact sym _ _ (fresh _ _ _ (h.own i u M hu hM))
        · cases hu'
      · rw [if_neg e2] at hu'
        exact h.ap i j u u' hij hu hu'
theorem row_set {w : World} {A : Option Addr} {L : List Int} {p : Addr} {v : Value} (h : Row w w.heap.size A L) (hA : ∀ g o s, A = some ⟨g, o, s⟩ → p.block < g) : Row (w.setCell p v) (w.setCell p v).heap.size A L := by
  rcases h with h | ⟨g, o, hA1, hg, hc⟩
  · exact Or.inl h
  · refine Or.inr ⟨g, o, hA1, by simpa using hg, fun k x hx => ?_⟩
    have hne := hA g o none hA1
    have hh := heap_setCell_other w p g v (by omega)
    have := hc k x hx
    simp only [World.cell?, hh] at this ⊢
    exact this
theorem own_lit1 {w : World} {B n : Nat} (hB : B ≤ w.heap.size) (hn : w.heap.size = n) : (w.alloc (.cells #[] 3)).ownsRow B 3 1 (.slice (some ⟨n, 0, none⟩) 0 0) 0 (Ri []) := by
  subst hn
  exact own_lit0 hB
theorem step_append_any {w : World} {ops : Array Oper} {o : Oper} {a : Act} {K : Act → World → Prop} {Q : Exit → Act → World → Prop} {E : Prop} (hg : o.guard = none) (s x : Operand)
    (hop : o.op = Op.call { callee := Callee.builtin Builtin.append, args := #[s, x], argTypes := #[22, 22] })
    (base n m c : Nat) (xs L : List Int) (v : Value) (A : Option Addr) (hs : a.eval s = v) (hown : w.ownsRow base 3 1 v n (Ri xs)) (hx : a.eval x = .slice A m c)
    (hrow : Row w w.heap.size A L) (hl : L.length = m) (hnil : A = none → c = 0) (hb : n + m ≤ 10000000) (hbase : base ≤ w.heap.size)
    (h : ∀ v' w', w'.ownsRow base 3 1 v' (n + m) (Ri (xs ++ L)) → w.grownBy w' v.ownBlock → K (a.put o.dst v') w') : if Region.wanted o (yielded ops a.tmps) = true then Oper.wp Try.prog o a w K Q else E := by
  cases A with
  | some ad => exact step_append_ints hg s x hop base n m c xs L v ad hs hown hx hrow hl hb hbase h
  | none =>
    have hw : Region.wanted o (yielded ops a.tmps) = true := by simp [Region.wanted, hg]
    rw [if_pos hw]
    obtain rfl : c = 0 := hnil rfl
    obtain rfl : L = [] := by
      rcases hrow with h | ⟨g, o, hA, _⟩
      · exact h
      · cases hA
    obtain rfl : m = 0 := hl.symm
    obtain ⟨i0, hi, hz0, hz1, hz2⟩ := info_parts infoI
    have hrun := run_append_owned_none (P := Try.prog) (w := w) base 22 o.type 3 i0 1 Try.underlying22 hi v n (Ri xs) hown
    unfold Oper.wp
    simp [execOp, hop, resolve, invoke, builtin, hs, hx, hrun, Result.andThen]
    exact h v w (by rw [List.append_nil]; exact hown) (World.grownBy.refl _ _)
set_option maxRecDepth 100000 in
set_option maxHeartbeats 4000000 in
theorem rpd_any (c : Cd) (w : World) (hok : c.ok w) (hf : c.few) : Calls Try.prog 40 #[(Value.agg #[Value.int IntKind.i64 (Cd.st c), Value.int IntKind.i64 (Cd.lo c), Value.slice (Cd.iA c) (Cd.n c) (Cd.ic c), Value.slice (Cd.hA c) (Cd.hn c) (Cd.hc c), Value.slice (Cd.mA c) (Cd.mn c) (Cd.mc c), Value.slice (Cd.lA c) (Cd.ln c) (Cd.lc c)])] w (PdRet w c.n (pdJ c c.n [])) := by
  have hB : Below w.heap.size w w := Below.refl _ _
  have OK := Lib.hid hok
  have hcn := hf.n
  clear hok
  go_enter Try.func40, Try.ntmps40
  go_upto_region 1 with fail
  have R := World.alloc_heap_new w (.cells #[.int .i64 c.st, .int .i64 c.lo, .slice c.iA c.n c.ic, .slice c.hA c.hn c.hc, .slice c.mA c.mn c.mc, .slice c.lA c.ln c.lc] 50)
  replace hB := below_al hB (.cells #[.int .i64 c.st, .int .i64 c.lo, .slice c.iA c.n c.ic, .slice c.hA c.hn c.hc, .slice c.mA c.mn c.mc, .slice c.lA c.ln c.lc] 50)
  generalize w.alloc (.cells #[.int .i64 c.st, .int .i64 c.lo, .slice c.iA c.n c.ic, .slice c.hA c.hn c.hc, .slice c.mA c.mn c.mc, .slice c.lA c.ln c.lc] 50) = W1 at R hB ⊢
  obtain ⟨r0, r1, r2, r3, r4, r5⟩ := six_cells R
  have y1 := lt_heap R
  replace R := Lib.hid R
  have OK1 := Lib.hid (OK.out.up hB)
  have HB := Lib.hid hB
  obtain ⟨i0, hi, hz0, hz1, hz2⟩ := info_parts infoL
  obtain ⟨Wm, hmk, hown, hgr⟩ := run_makeSlice_full (P := Try.prog) W1 W1.heap.size 56 22 i0 (.slice none 0 0) 1 Try.underlying56 hi hz0 hz1 .i64 .i64 c.n (by omega) (by rw [hz2]; omega) (by unfold maxLen; omega) (Nat.le_refl _)
  rw [made_nil] at hown
  have hbm : Below W1.heap.size W1 Wm := grown_below hgr (fun k hk => by cases hk) (Nat.le_refl _)
  have HP0 := Lib.hid (show Pd W1 Wm c.n (List.replicate c.n (.slice none 0 0)) (pdJ c 0 []) from by
    refine ⟨hown, pdJ_len _ _ _, fun i v L h1 h2 => ?_, fun i j v v' _ h1 _ => ?_, hbm⟩
    · have hic : i < c.n := by have := get_ltF h2; rw [pdJ_len] at this; exact this
      rw [pdJ_at hic] at h2
      rw [List.getElem?_replicate, if_pos hic] at h1
      obtain rfl := Option.some.inj h1
      obtain rfl : L = [] := by rw [← Option.some.inj h2]; simp [pdR, rowsI]
      exact World.ownsRow_nil _ _ _ _
    · rw [List.getElem?_replicate] at h1
      split at h1
      · obtain rfl := Option.some.inj h1; exact Or.inl rfl
      · cases h1)
  clear hown hgr hB hi hz0 hz1 hz2 hbm
  go_upto_region 2 with fail
  clear r0 r1 r2 r3 r4 r5 hmk
  go_wp2
  go_loopw [4] (fun z wr => ∃ (k : Nat) (vs : List Value), k ≤ c.n ∧ z = .int .i64 k ∧ Pd W1 wr c.n vs (pdJ c k [])) (fun z _ => c.n - (intOf z).toNat)
  case atStart => exact ⟨0, _, Nat.zero_le _, rfl, HP0.out⟩
  case round =>
    clear HP0
    obtain ⟨k, vs, hk, rfl, hp⟩ := hrel
    have HP := Lib.hid hp
    have RBr := Lib.hid ((hp.bel.block _ y1).trans R.out)
    have OKr := Lib.hid (OK1.out.up hp.bel)
    clear hp
    by_cases hlt : k < c.n
    · obtain ⟨r0, r1, r2, r3, r4, r5⟩ := six_cells RBr.out
      have yr := lt_heap RBr.out
      obtain ⟨S, hS⟩ : ∃ S, edL c k = S := ⟨_, rfl⟩
      have HS := Lib.hid hS
      have hm1 : S.length ≤ 142 := by rw [← hS]; exact edL_few OKr.out hf k
      have HSB := Lib.hid (show ∀ t ∈ S, 0 ≤ t ∧ t < c.n by rw [← hS]; exact edL_bd OKr.out k)
      have HSO := Lib.hid (show S.Pairwise (· < ·) by rw [← hS]; exact (ordL_spec _).1)
      obtain ⟨m, hm⟩ : ∃ m, S.length = m := ⟨_, rfl⟩
      have HM := Lib.hid hm
      rw [hm] at hm1
      clear hS hm
      go_upto_region 6 with (go_at_call 77; (with_reducible refine (red_any c _ _ OKr.out hf).mono ?_); rintro e w2 ⟨A3, c3, rfl, hc3, hm3, _, hr3, hA3, hb2⟩; rw [HS.out] at hc3 hr3; rw [HM.out] at hc3; rw [HS.out, HM.out])
      have HR3 := Lib.hid hr3
      have HP2 := Lib.hid (HP.out.up hb2)
      have hgw := (HP.out.out.lt W1.heap.size rfl).2
      have HA3 := Lib.hid (show ∀ g o s, A3 = some ⟨g, o, s⟩ → W1.heap.size < g from fun g o s e => Nat.lt_of_lt_of_le hgw (hA3 g o s e))
      clear r0 r1 r2 r3 r4 r5 yr hr3 hA3 hb2 RBr OKr HP hgw
      go_wp2
      go_loopw [6] (fun z wx => ∃ (j : Nat) (vs : List Value), j ≤ m ∧ z = .int .i64 j ∧ Pd W1 wx c.n vs (pdJ c k (S.take j)) ∧ Row wx wx.heap.size A3 S) (fun z _ => m - (intOf z).toNat)
      case atStart => exact ⟨0, vs, Nat.zero_le _, rfl, by rw [List.take_zero]; exact HP2.out, HR3.out⟩
      case round =>
        clear HP2 HR3
        obtain ⟨j, vs, hj, rfl, hp, hrow⟩ := hrel
        have HP := Lib.hid hp
        have HROW := Lib.hid hrow
        by_cases hjt : j < m
        · obtain ⟨t, ht⟩ := get_someF (l := S) (k := j) (by rw [HM.out]; exact hjt)
          obtain ⟨ht0, ht1⟩ := HSB.out t (List.mem_of_getElem? ht)
          obtain ⟨kt, rfl⟩ : ∃ kt : Nat, t = (kt : Int) := ⟨t.toNat, by omega⟩
          obtain ⟨gs, os, rfl, hgs, hcs⟩ := row_get hrow ht
          have HST := Lib.hid (pdJ_step (c := c) (k := k) HSO.out ht (by omega))
          obtain ⟨v, hv⟩ := get_someF (l := vs) (k := kt) (by have := hp.vl; omega)
          have HPA := Lib.hid (pdJ_at (c := c) (k := k) (t := kt) (T := S.take j) (by omega))
          obtain ⟨L, hL⟩ : ∃ L, pdR c kt k ++ (if (kt : Int) ∈ S.take j then [(k : Int)] else []) = L := ⟨_, rfl⟩
          rw [hL] at HST HPA
          have hLl : L.length ≤ 301 := by
            rw [← hL, List.length_append]
            have := pdR_len c kt k
            split <;> simp <;> omega
          have how := hp.own kt v L hv HPA.out
          obtain ⟨q, hq⟩ : ∃ q, L.length = q := ⟨_, rfl⟩
          have HQ := Lib.hid hq
          rw [hq] at hLl how
          have hcv : wr.cell? ⟨W1.heap.size, kt, none⟩ = some v := by rw [hp.out.cellAt kt (by omega), hv]
          have hgw := (hp.out.lt W1.heap.size rfl).2
          have hfz := hp.out.frozenAt kt
          obtain ⟨vA, vc, rfl, hvc, hvm, hvn⟩ := own_form how
          have HVR := Lib.hid (Row.of_own how).1
          have HVN := Lib.hid hvn
          have hj0 : (0 : Int) ≤ (j : Int) := by omega
          have hj1 : (j : Int) < (m : Int) := by omega
          have hkt1 : (kt : Int) < (c.n : Int) := by omega
          have hkt0 : (0 : Int) ≤ (kt : Int) := by omega
          clear ht hrow hp hv hL hq how hvn
          have KS := Lib.hid (fun (w' : World) (hb : Below wr.heap.size wr w') => show w'.cell? ⟨gs, os + j, none⟩ = some (.int .i64 kt) ∧ w'.cell? ⟨W1.heap.size, kt, none⟩ = some (.slice vA q vc) ∧ Below wr.heap.size wr w' from ⟨(hb.cell (p := ⟨gs, os + j, none⟩) hgs).trans hcs, (hb.cell (p := ⟨W1.heap.size, kt, none⟩) hgw).trans hcv, hb⟩)
          have RPD := Lib.hid (fun (v6 : Value) (w6 : World) (hq6 : Below wr.heap.size wr w6) (ho6 : w6.ownsRow wr.heap.size 3 1 v6 (L ++ [(k : Int)]).length (Ri (L ++ [(k : Int)]))) => show (∃ (j' : Nat) (vs' : List Value), j' ≤ m ∧ Value.int .i64 ((j : Int) + 1) = .int .i64 j' ∧ Pd W1 (w6.setCell ⟨W1.heap.size, kt, none⟩ v6) c.n vs' (pdJ c k (S.take j')) ∧ Row (w6.setCell ⟨W1.heap.size, kt, none⟩ v6) (w6.setCell ⟨W1.heap.size, kt, none⟩ v6).heap.size (some ⟨gs, os, none⟩) S) from by
            refine ⟨j + 1, vs.set kt v6, hjt, by go_num, ?_, row_set (HROW.out.up hq6) HA3.out⟩
            rw [HST.out]
            exact HP.out.put (by omega) hq6 ho6)
          go_wp2
          -- REGION 9 (gen/rpd.py)
          refine regN_start (N := 18) (S := (fun w' => w'.cell? ⟨gs, os + j, none⟩ = some (.int .i64 (kt : Int)) ∧ w'.cell? ⟨W1.heap.size, kt, none⟩ = some (.slice vA q vc) ∧ Below wr.heap.size wr w')) (by kernel_rfl) ?_
          change wpAnyN _ _ _ _ _ _ _ #[false, false, false, false, false, false, false, false, false, false, false, false, false, false, false, false, false, false, false] _ (World.drew _)
          have hS0 := KS.out _ (Below.refl wr.heap.size wr).drew
          refine regN_take (i := 0) (d := (some 26)) (v := ?v1) (l2 := #[true, false, false, false, false, false, false, false, false, false, false, false, false, false, false, false, false, false, false]) rfl rfl rfl (by kernel_rfl) (by kernel_rfl) (by kernel_rfl) (by kernel_rfl) (fun _ _ _ h => h) (by rfl) ?hv1 hS0 ?h1
          case hv1 => intro u hSu; clear hSu; go_simp; (try with_reducible rfl)
          (try simp only [Act.put, List.setIfInBounds_toArray, List.set_cons_zero, List.set_cons_succ])
          refine regN_take (i := 1) (d := (some 27)) (v := ?v2) (l2 := #[true, true, false, false, false, false, false, false, false, false, false, false, false, false, false, false, false, false, false]) rfl rfl rfl (by kernel_rfl) (by kernel_rfl) (by kernel_rfl) (by kernel_rfl) (fun _ _ _ h => h) (by rfl) ?hv2 hS0 ?h2
          case hv2 => intro u hSu; clear hSu; go_simp; (try with_reducible rfl)
          (try simp only [Act.put, List.setIfInBounds_toArray, List.set_cons_zero, List.set_cons_succ])
          refine regN_take (i := 2) (d := (some 28)) (v := ?v3) (l2 := #[true, true, true, false, false, false, false, false, false, false, false, false, false, false, false, false, false, false, false]) rfl rfl rfl (by kernel_rfl) (by kernel_rfl) (by kernel_rfl) (by kernel_rfl) (fun _ _ _ h => h) (by rfl) ?hv3 hS0 ?h3
          case hv3 => intro u hSu; clear hSu; go_simp; (try with_reducible rfl)
          (try simp only [Act.put, List.setIfInBounds_toArray, List.set_cons_zero, List.set_cons_succ])
          refine regN_take (i := 3) (d := (some 29)) (v := ?v4) (l2 := #[true, true, true, true, false, false, false, false, false, false, false, false, false, false, false, false, false, false, false]) rfl rfl rfl (by kernel_rfl) (by kernel_rfl) (by kernel_rfl) (by kernel_rfl) (fun _ _ _ h => h) (by rfl) ?hv4 hS0 ?h4
          case hv4 => intro u hSu; clear hSu; go_simp; (try with_reducible rfl)
          (try simp only [Act.put, List.setIfInBounds_toArray, List.set_cons_zero, List.set_cons_succ])
          refine regN_take (i := 4) (d := (some 30)) (v := ?v5) (l2 := #[true, true, true, true, true, false, false, false, false, false, false, false, false, false, false, false, false, false, false]) rfl rfl rfl (by kernel_rfl) (by kernel_rfl) (by kernel_rfl) (by kernel_rfl) (fun _ _ _ h => h) (by rfl) ?hv5 hS0 ?h5
          case hv5 => intro u hSu; (try dsimp only at hSu); (try go_split_ands); go_simp; (try with_reducible rfl)
          (try simp only [Act.put, List.setIfInBounds_toArray, List.set_cons_zero, List.set_cons_succ])
          refine regN_take (i := 6) (d := (some 32)) (v := ?v6) (l2 := #[true, true, true, true, true, false, true, false, false, false, false, false, false, false, false, false, false, false, false]) rfl rfl rfl (by kernel_rfl) (by kernel_rfl) (by kernel_rfl) (by kernel_rfl) (fun _ _ _ h => h) (by rfl) ?hv6 hS0 ?h6
          case hv6 => intro u hSu; clear hSu; go_simp; (try with_reducible rfl)
          (try simp only [Act.put, List.setIfInBounds_toArray, List.set_cons_zero, List.set_cons_succ])
          refine regN_take (i := 7) (d := (some 33)) (v := ?v7) (l2 := #[true, true, true, true, true, false, true, true, false, false, false, false, false, false, false, false, false, false, false]) rfl rfl rfl (by kernel_rfl) (by kernel_rfl) (by kernel_rfl) (by kernel_rfl) (fun _ _ _ h => h) (by rfl) ?hv7 hS0 ?h7
          case hv7 => intro u hSu; clear hSu; go_simp; (try with_reducible rfl)
          (try simp only [Act.put, List.setIfInBounds_toArray, List.set_cons_zero, List.set_cons_succ])
          refine regN_take (i := 8) (d := (some 34)) (v := ?v8) (l2 := #[true, true, true, true, true, false, true, true, true, false, false, false, false, false, false, false, false, false, false]) rfl rfl rfl (by kernel_rfl) (by kernel_rfl) (by kernel_rfl) (by kernel_rfl) (fun _ _ _ h => h) (by rfl) ?hv8 hS0 ?h8
          case hv8 => intro u hSu; clear hSu; go_simp; (try with_reducible rfl)
          (try simp only [Act.put, List.setIfInBounds_toArray, List.set_cons_zero, List.set_cons_succ])
          refine regN_take (i := 9) (d := (some 35)) (v := ?v9) (l2 := #[true, true, true, true, true, false, true, true, true, true, false, false, false, false, false, false, false, false, false]) rfl rfl rfl (by kernel_rfl) (by kernel_rfl) (by kernel_rfl) (by kernel_rfl) (fun _ _ _ h => h) (by rfl) ?hv9 hS0 ?h9
          case hv9 => intro u hSu; clear hSu; go_simp; (try with_reducible rfl)
          (try simp only [Act.put, List.setIfInBounds_toArray, List.set_cons_zero, List.set_cons_succ])
          refine regN_take (i := 10) (d := (some 36)) (v := ?v10) (l2 := #[true, true, true, true, true, false, true, true, true, true, true, false, false, false, false, false, false, false, false]) rfl rfl rfl (by kernel_rfl) (by kernel_rfl) (by kernel_rfl) (by kernel_rfl) (fun _ _ _ h => h) (by rfl) ?hv10 hS0 ?h10
          case hv10 => intro u hSu; (try dsimp only at hSu); (try go_split_ands); go_simp; (try with_reducible rfl)
          (try simp only [Act.put, List.setIfInBounds_toArray, List.set_cons_zero, List.set_cons_succ])
          refine regN_take (i := 11) (d := (some 37)) (v := ?v11) (l2 := #[true, true, true, true, true, false, true, true, true, true, true, true, false, false, false, false, false, false, false]) rfl rfl rfl (by kernel_rfl) (by kernel_rfl) (by kernel_rfl) (by kernel_rfl) (fun _ _ _ h => h) (by rfl) ?hv11 hS0 ?h11
          case hv11 => intro u hSu; clear hSu; go_simp; (try with_reducible rfl)
          (try simp only [Act.put, List.setIfInBounds_toArray, List.set_cons_zero, List.set_cons_succ])
          refine regN_take (i := 12) (d := (some 38)) (v := ?v12) (l2 := #[true, true, true, true, true, false, true, true, true, true, true, true, true, false, false, false, false, false, false]) rfl rfl rfl (by kernel_rfl) (by kernel_rfl) (by kernel_rfl) (by kernel_rfl) (fun _ _ _ h => h) (by rfl) ?hv12 hS0 ?h12
          case hv12 => intro u hSu; (try dsimp only at hSu); (try go_split_ands); go_simp; (try with_reducible rfl)
          (try simp only [Act.put, List.setIfInBounds_toArray, List.set_cons_zero, List.set_cons_succ])
          refine regN_take (i := 14) (d := (some 40)) (v := ?v13) (l2 := #[true, true, true, true, true, false, true, true, true, true, true, true, true, false, true, false, false, false, false]) rfl rfl rfl (by kernel_rfl) (by kernel_rfl) (by kernel_rfl) (by kernel_rfl) (fun _ _ _ h => h) (by rfl) ?hv13 hS0 ?h13
          case hv13 => intro u hSu; clear hSu; go_simp; (try with_reducible rfl)
          (try simp only [Act.put, List.setIfInBounds_toArray, List.set_cons_zero, List.set_cons_succ])
          refine regN_ready (rs := [5, 15]) (by kernel_rfl) (by simp) ?_
          refine (AllN.cons (i := 5) (l2 := #[true, true, true, true, true, true, true, true, true, true, true, true, true, false, true, false, false, false, false]) rfl rfl (fun K hK => ?_) (AllN.cons (i := 15) (l2 := #[true, true, true, true, true, false, true, true, true, true, true, true, true, false, true, true, false, false, false]) rfl rfl (fun K hK => ?_) AllN.nil))
          · go_simp
            have hS1 : ((fun w' => w'.cell? ⟨gs, os + j, none⟩ = some (.int .i64 (kt : Int)) ∧ w'.cell? ⟨W1.heap.size, kt, none⟩ = some (.slice vA q vc) ∧ Below wr.heap.size wr w') : World → Prop) _ := KS.out _ (below_al hS0.2.2 (.cells #[] 3))
            refine hK _ _ (fun _ => hS1) ?_
            clear hK K
            (try simp only [Act.put, List.setIfInBounds_toArray, List.set_cons_zero, List.set_cons_succ])
            refine regN_ready (rs := [13, 15]) (by kernel_rfl) (by simp) ?_
            refine (AllN.cons (i := 13) (l2 := #[true, true, true, true, true, true, true, true, true, true, true, true, true, true, true, false, false, false, false]) rfl rfl (fun K hK => ?_) (AllN.cons (i := 15) (l2 := #[true, true, true, true, true, true, true, true, true, true, true, true, true, false, true, true, false, false, false]) rfl rfl (fun K hK => ?_) AllN.nil))
            · refine step_append_any (by rfl) _ _ (by rfl) wr.heap.size 0 q vc [] L _ _ (by rfl) (own_lit0 (w := wr.drew) (B := wr.heap.size) (Nat.le_refl _)) (by rfl) (HVR.out.up (below_al (Below.refl wr.heap.size wr).drew (.cells #[] 3))) HQ.out HVN.out (by omega) (below_al (Below.refl wr.heap.size wr).drew (.cells #[] 3)).size ?_
              intro v5 w5 ho5 hg5
              have hq5 : Below wr.heap.size wr w5 := grown_own (below_al (Below.refl wr.heap.size wr).drew (.cells #[] 3)) (own_lit0 (w := wr.drew) (B := wr.heap.size) (Nat.le_refl _)) hg5
              rw [Nat.zero_add, List.nil_append] at ho5
              have hS2 : ((fun w' => w'.cell? ⟨gs, os + j, none⟩ = some (.int .i64 (kt : Int)) ∧ w'.cell? ⟨W1.heap.size, kt, none⟩ = some (.slice vA q vc) ∧ Below wr.heap.size wr w') : World → Prop) _ := KS.out _ hq5
              refine hK _ _ (fun _ => hS2) ?_
              clear hK K
              (try simp only [Act.put, List.setIfInBounds_toArray, List.set_cons_zero, List.set_cons_succ])
              refine regN_ready (rs := [15]) (by kernel_rfl) (by simp) ?_
              refine (AllN.cons (i := 15) (l2 := #[true, true, true, true, true, true, true, true, true, true, true, true, true, true, true, true, false, false, false]) rfl rfl (fun K hK => ?_) AllN.nil)
              go_simp
              have hS3 : ((fun w' => w'.cell? ⟨gs, os + j, none⟩ = some (.int .i64 (kt : Int)) ∧ w'.cell? ⟨W1.heap.size, kt, none⟩ = some (.slice vA q vc) ∧ Below wr.heap.size wr w') : World → Prop) _ := KS.out _ (below_al hS2.2.2 (.cells #[.int .i64 (k : Int)] 3))
              refine hK _ _ (fun _ => hS3) ?_
              clear hK K
              (try simp only [Act.put, List.setIfInBounds_toArray, List.set_cons_zero, List.set_cons_succ])
              refine regN_ready (rs := [16]) (by kernel_rfl) (by simp) ?_
              refine (AllN.cons (i := 16) (l2 := #[true, true, true, true, true, true, true, true, true, true, true, true, true, true, true, true, true, false, false]) rfl rfl (fun K hK => ?_) AllN.nil)
              refine step_append_any (by rfl) _ _ (by rfl) wr.heap.size q 1 1 L [(k : Int)] _ _ (by rfl) (ho5.alloc (.cells #[.int .i64 (k : Int)] 3)) (by rfl) (Row.one (ten_cell0 (new_at rfl)) (by simp)) rfl (fun h => by cases h) (by omega) (below_al hq5 (.cells #[.int .i64 (k : Int)] 3)).size ?_
              intro v6 w6 ho6 hg6
              have hq6 : Below wr.heap.size wr w6 := grown_own (below_al hq5 (.cells #[.int .i64 (k : Int)] 3)) (ho5.alloc (.cells #[.int .i64 (k : Int)] 3)) hg6
              have hcv6 := (hq6.cell (p := ⟨W1.heap.size, kt, none⟩) hgw).trans hcv
              have hfz6 := (HP.out.up hq6).out.frozenAt kt
              have hgw6 := Nat.lt_of_lt_of_le hgw hq6.size
              obtain ⟨A6, c6, rfl, _, _, _⟩ := own_form ho6
              have hS4 : ((fun w' => w'.cell? ⟨gs, os + j, none⟩ = some (.int .i64 (kt : Int)) ∧ w'.cell? ⟨W1.heap.size, kt, none⟩ = some (.slice vA q vc) ∧ Below wr.heap.size wr w') : World → Prop) _ := KS.out _ hq6
              refine hK _ _ (fun _ => hS4) ?_
              clear hK K
              (try simp only [Act.put, List.setIfInBounds_toArray, List.set_cons_zero, List.set_cons_succ])
              refine regN_take (i := 17) (d := (some 43)) (v := ?v14) (l2 := #[true, true, true, true, true, true, true, true, true, true, true, true, true, true, true, true, true, true, false]) rfl rfl rfl (by kernel_rfl) (by kernel_rfl) (by kernel_rfl) (by kernel_rfl) (fun _ _ _ h => h) (by rfl) ?hv14 hS4 ?h14
              case hv14 => intro u hSu; clear hSu; go_simp; (try with_reducible rfl)
              (try simp only [Act.put, List.setIfInBounds_toArray, List.set_cons_zero, List.set_cons_succ])
              refine regN_ready (rs := [18]) (by kernel_rfl) (by simp) ?_
              refine (AllN.cons (i := 18) (l2 := #[true, true, true, true, true, true, true, true, true, true, true, true, true, true, true, true, true, true, true]) rfl rfl (fun K hK => ?_) AllN.nil)
              go_simp
              refine hK _ _ (fun h => absurd rfl h) ?_
              clear hK K
              (try simp only [Act.put, List.setIfInBounds_toArray, List.set_cons_zero, List.set_cons_succ])
              refine regN_done (by kernel_rfl) ?_ _
              go_wp2
              exact ⟨RPD.out _ _ hq6 (by rw [List.length_append, HQ.out]; exact ho6), by simp [intOf]; omega⟩
            · go_simp
              have hS2 : ((fun w' => w'.cell? ⟨gs, os + j, none⟩ = some (.int .i64 (kt : Int)) ∧ w'.cell? ⟨W1.heap.size, kt, none⟩ = some (.slice vA q vc) ∧ Below wr.heap.size wr w') : World → Prop) _ := KS.out _ (below_al hS1.2.2 (.cells #[.int .i64 (k : Int)] 3))
              refine hK _ _ (fun _ => hS2) ?_
              clear hK K
              (try simp only [Act.put, List.setIfInBounds_toArray, List.set_cons_zero, List.set_cons_succ])
              refine regN_ready (rs := [13]) (by kernel_rfl) (by simp) ?_
              refine (AllN.cons (i := 13) (l2 := #[true, true, true, true, true, true, true, true, true, true, true, true, true, true, true, true, false, false, false]) rfl rfl (fun K hK => ?_) AllN.nil)
              refine step_append_any (by rfl) _ _ (by rfl) wr.heap.size 0 q vc [] L _ _ (by rfl) ((own_lit0 (w := wr.drew) (B := wr.heap.size) (Nat.le_refl _)).alloc (.cells #[.int .i64 (k : Int)] 3)) (by rfl) (HVR.out.up (below_al (below_al (Below.refl wr.heap.size wr).drew (.cells #[] 3)) (.cells #[.int .i64 (k : Int)] 3))) HQ.out HVN.out (by omega) (below_al (below_al (Below.refl wr.heap.size wr).drew (.cells #[] 3)) (.cells #[.int .i64 (k : Int)] 3)).size ?_
              intro v5 w5 ho5 hg5
              have hq5 : Below wr.heap.size wr w5 := grown_own (below_al (below_al (Below.refl wr.heap.size wr).drew (.cells #[] 3)) (.cells #[.int .i64 (k : Int)] 3)) ((own_lit0 (w := wr.drew) (B := wr.heap.size) (Nat.le_refl _)).alloc (.cells #[.int .i64 (k : Int)] 3)) hg5
              rw [Nat.zero_add, List.nil_append] at ho5
              have hx5 : w5.cell? ⟨wr.heap.size + 1, 0, none⟩ = some (.int .i64 (k : Int)) := (grown_cell hg5 (by first | (simp; done) | (simp; omega)) (by simp [Value.ownBlock])).trans (by simp)
              have hS3 : ((fun w' => w'.cell? ⟨gs, os + j, none⟩ = some (.int .i64 (kt : Int)) ∧ w'.cell? ⟨W1.heap.size, kt, none⟩ = some (.slice vA q vc) ∧ Below wr.heap.size wr w') : World → Prop) _ := KS.out _ hq5
              refine hK _ _ (fun _ => hS3) ?_
              clear hK K
              (try simp only [Act.put, List.setIfInBounds_toArray, List.set_cons_zero, List.set_cons_succ])
              refine regN_ready (rs := [16]) (by kernel_rfl) (by simp) ?_
              refine (AllN.cons (i := 16) (l2 := #[true, true, true, true, true, true, true, true, true, true, true, true, true, true, true, true, true, false, false]) rfl rfl (fun K hK => ?_) AllN.nil)
              refine step_append_any (by rfl) _ _ (by rfl) wr.heap.size q 1 1 L [(k : Int)] _ _ (by rfl) (ho5) (by rfl) (Row.one hx5 (by have := hg5.size; simp at this; omega)) rfl (fun h => by cases h) (by omega) (hq5).size ?_
              intro v6 w6 ho6 hg6
              have hq6 : Below wr.heap.size wr w6 := grown_own (hq5) (ho5) hg6
              have hcv6 := (hq6.cell (p := ⟨W1.heap.size, kt, none⟩) hgw).trans hcv
              have hfz6 := (HP.out.up hq6).out.frozenAt kt
              have hgw6 := Nat.lt_of_lt_of_le hgw hq6.size
              obtain ⟨A6, c6, rfl, _, _, _⟩ := own_form ho6
              have hS4 : ((fun w' => w'.cell? ⟨gs, os + j, none⟩ = some (.int .i64 (kt : Int)) ∧ w'.cell? ⟨W1.heap.size, kt, none⟩ = some (.slice vA q vc) ∧ Below wr.heap.size wr w') : World → Prop) _ := KS.out _ hq6
              refine hK _ _ (fun _ => hS4) ?_
              clear hK K
              (try simp only [Act.put, List.setIfInBounds_toArray, List.set_cons_zero, List.set_cons_succ])
              refine regN_take (i := 17) (d := (some 43)) (v := ?v15) (l2 := #[true, true, true, true, true, true, true, true, true, true, true, true, true, true, true, true, true, true, false]) rfl rfl rfl (by kernel_rfl) (by kernel_rfl) (by kernel_rfl) (by kernel_rfl) (fun _ _ _ h => h) (by rfl) ?hv15 hS4 ?h15
              case hv15 => intro u hSu; clear hSu; go_simp; (try with_reducible rfl)
              (try simp only [Act.put, List.setIfInBounds_toArray, List.set_cons_zero, List.set_cons_succ])
              refine regN_ready (rs := [18]) (by kernel_rfl) (by simp) ?_
              refine (AllN.cons (i := 18) (l2 := #[true, true, true, true, true, true, true, true, true, true, true, true, true, true, true, true, true, true, true]) rfl rfl (fun K hK => ?_) AllN.nil)
              go_simp
              refine hK _ _ (fun h => absurd rfl h) ?_
              clear hK K
              (try simp only [Act.put, List.setIfInBounds_toArray, List.set_cons_zero, List.set_cons_succ])
              refine regN_done (by kernel_rfl) ?_ _
              go_wp2
              exact ⟨RPD.out _ _ hq6 (by rw [List.length_append, HQ.out]; exact ho6), by simp [intOf]; omega⟩
          · go_simp
            have hS1 : ((fun w' => w'.cell? ⟨gs, os + j, none⟩ = some (.int .i64 (kt : Int)) ∧ w'.cell? ⟨W1.heap.size, kt, none⟩ = some (.slice vA q vc) ∧ Below wr.heap.size wr w') : World → Prop) _ := KS.out _ (below_al hS0.2.2 (.cells #[.int .i64 (k : Int)] 3))
            refine hK _ _ (fun _ => hS1) ?_
            clear hK K
            (try simp only [Act.put, List.setIfInBounds_toArray, List.set_cons_zero, List.set_cons_succ])
            refine regN_ready (rs := [5]) (by kernel_rfl) (by simp) ?_
            refine (AllN.cons (i := 5) (l2 := #[true, true, true, true, true, true, true, true, true, true, true, true, true, false, true, true, false, false, false]) rfl rfl (fun K hK => ?_) AllN.nil)
            go_simp
            have hS2 : ((fun w' => w'.cell? ⟨gs, os + j, none⟩ = some (.int .i64 (kt : Int)) ∧ w'.cell? ⟨W1.heap.size, kt, none⟩ = some (.slice vA q vc) ∧ Below wr.heap.size wr w') : World → Prop) _ := KS.out _ (below_al hS1.2.2 (.cells #[] 3))
            refine hK _ _ (fun _ => hS2) ?_
            clear hK K
            (try simp only [Act.put, List.setIfInBounds_toArray, List.set_cons_zero, List.set_cons_succ])
            refine regN_ready (rs := [13]) (by kernel_rfl) (by simp) ?_
            refine (AllN.cons (i := 13) (l2 := #[true, true, true, true, true, true, true, true, true, true, true, true, true, true, true, true, false, false, false]) rfl rfl (fun K hK => ?_) AllN.nil)
            refine step_append_any (by rfl) _ _ (by rfl) wr.heap.size 0 q vc [] L _ _ (by rfl) (own_lit1 (w := wr.drew.alloc (.cells #[.int .i64 (k : Int)] 3)) (B := wr.heap.size) (n := wr.heap.size + 1) (Below.size (below_al (Below.refl wr.heap.size wr).drew (.cells #[.int .i64 (k : Int)] 3))) (by simp)) (by rfl) (HVR.out.up (below_al (below_al (Below.refl wr.heap.size wr).drew (.cells #[.int .i64 (k : Int)] 3)) (.cells #[] 3))) HQ.out HVN.out (by omega) (below_al (below_al (Below.refl wr.heap.size wr).drew (.cells #[.int .i64 (k : Int)] 3)) (.cells #[] 3)).size ?_
            intro v5 w5 ho5 hg5
            have hq5 : Below wr.heap.size wr w5 := grown_own (below_al (below_al (Below.refl wr.heap.size wr).drew (.cells #[.int .i64 (k : Int)] 3)) (.cells #[] 3)) (own_lit1 (w := wr.drew.alloc (.cells #[.int .i64 (k : Int)] 3)) (B := wr.heap.size) (n := wr.heap.size + 1) (Below.size (below_al (Below.refl wr.heap.size wr).drew (.cells #[.int .i64 (k : Int)] 3))) (by simp)) hg5
            rw [Nat.zero_add, List.nil_append] at ho5
            have hx5 : w5.cell? ⟨wr.heap.size, 0, none⟩ = some (.int .i64 (k : Int)) := (grown_cell hg5 (by first | (simp; done) | (simp; omega)) (by simp [Value.ownBlock])).trans (by simp)
            have hS3 : ((fun w' => w'.cell? ⟨gs, os + j, none⟩ = some (.int .i64 (kt : Int)) ∧ w'.cell? ⟨W1.heap.size, kt, none⟩ = some (.slice vA q vc) ∧ Below wr.heap.size wr w') : World → Prop) _ := KS.out _ hq5
            refine hK _ _ (fun _ => hS3) ?_
            clear hK K
            (try simp only [Act.put, List.setIfInBounds_toArray, List.set_cons_zero, List.set_cons_succ])
            refine regN_ready (rs := [16]) (by kernel_rfl) (by simp) ?_
            refine (AllN.cons (i := 16) (l2 := #[true, true, true, true, true, true, true, true, true, true, true, true, true, true, true, true, true, false, false]) rfl rfl (fun K hK => ?_) AllN.nil)
            refine step_append_any (by rfl) _ _ (by rfl) wr.heap.size q 1 1 L [(k : Int)] _ _ (by rfl) (ho5) (by rfl) (Row.one hx5 (by have := hg5.size; simp at this; omega)) rfl (fun h => by cases h) (by omega) (hq5).size ?_
            intro v6 w6 ho6 hg6
            have hq6 : Below wr.heap.size wr w6 := grown_own (hq5) (ho5) hg6
            have hcv6 := (hq6.cell (p := ⟨W1.heap.size, kt, none⟩) hgw).trans hcv
            have hfz6 := (HP.out.up hq6).out.frozenAt kt
            have hgw6 := Nat.lt_of_lt_of_le hgw hq6.size
            obtain ⟨A6, c6, rfl, _, _, _⟩ := own_form ho6
            have hS4 : ((fun w' => w'.cell? ⟨gs, os + j, none⟩ = some (.int .i64 (kt : Int)) ∧ w'.cell? ⟨W1.heap.size, kt, none⟩ = some (.slice vA q vc) ∧ Below wr.heap.size wr w') : World → Prop) _ := KS.out _ hq6
            refine hK _ _ (fun _ => hS4) ?_
            clear hK K
            (try simp only [Act.put, List.setIfInBounds_toArray, List.set_cons_zero, List.set_cons_succ])
            refine regN_take (i := 17) (d := (some 43)) (v := ?v16) (l2 := #[true, true, true, true, true, true, true, true, true, true, true, true, true, true, true, true, true, true, false]) rfl rfl rfl (by kernel_rfl) (by kernel_rfl) (by kernel_rfl) (by kernel_rfl) (fun _ _ _ h => h) (by rfl) ?hv16 hS4 ?h16
            case hv16 => intro u hSu; clear hSu; go_simp; (try with_reducible rfl)
            (try simp only [Act.put, List.setIfInBounds_toArray, List.set_cons_zero, List.set_cons_succ])
            refine regN_ready (rs := [18]) (by kernel_rfl) (by simp) ?_
            refine (AllN.cons (i := 18) (l2 := #[true, true, true, true, true, true, true, true, true, true, true, true, true, true, true, true, true, true, true]) rfl rfl (fun K hK => ?_) AllN.nil)
            go_simp
            refine hK _ _ (fun h => absurd rfl h) ?_
            clear hK K
            (try simp only [Act.put, List.setIfInBounds_toArray, List.set_cons_zero, List.set_cons_succ])
            refine regN_done (by kernel_rfl) ?_ _
            go_wp2
            exact ⟨RPD.out _ _ hq6 (by rw [List.length_append, HQ.out]; exact ho6), by simp [intOf]; omega⟩
          -- END
        · obtain ⟨rfl⟩ : m = j := by omega
          go_wp2
          exact ⟨⟨k + 1, vs, hlt, by go_num, by rw [← pdJ_next, HS.out]; have := HP.out; rw [List.take_of_length_le (by rw [HM.out]; exact Nat.le_refl _)] at this; exact this⟩, by simp [intOf]; omega⟩
    · obtain ⟨hkn⟩ : c.n = k := by omega
      go_wp2
      go_ret
      exact ⟨W1, vs, rfl, HP.out, HB.out⟩

end Go.Proofs.Ytpghkdmljanncaa
