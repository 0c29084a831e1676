/- Layer 19: the reference's Distances (written by gen/rds.py out of gen/rds.txt). -/
import Derived.Test.YtpghkdmljanncaaFi
import Derived.Test.YtpghkdmljanncaaFga
import Derived.Test.YtpghkdmljanncaaReg
import Derived.BigQuiet
namespace Go.Proofs.Ytpghkdmljanncaa
open Go.ChangeShapes Go.WideShapes Go.ChangeAt Go.RowKit Go.PlainAid
set_option linter.unusedSimpArgs false
set_option linter.unusedVariables false

/-- the distances' row in block g while the call runs -/
structure Fg (W wr : World) (g cap n : Nat) (F : List Int) : Prop where
  own : wr.ownsRow W.heap.size 3 1 (.slice (some ⟨g, 0, none⟩) n cap) n (Ri F)
  bel : Below W.heap.size W wr
theorem Fg.len {W wr : World} {g cap n : Nat} {F : List Int} (h : Fg W wr g cap n F) : F.length = n := by have := h.own.1; rw [ri_len] at this; omega
theorem Fg.cell {W wr : World} {g cap n : Nat} {F : List Int} (h : Fg W wr g cap n F) {j : Nat} (hj : j < n) : wr.cell? ⟨g, j, none⟩ = some (.int .i64 (F.getD j 0)) := by
  rw [h.own.cellAt j (by omega)]
  unfold Ri
  have hl := h.len
  rw [List.getElem?_map, List.getD_eq_getElem?_getD, List.getElem?_eq_getElem (by omega)]; rfl
theorem Fg.at_ {W wr : World} {g cap n : Nat} {F : List Int} (h : Fg W wr g cap n F) : W.heap.size ≤ g ∧ g < wr.heap.size := ⟨(h.own.lt g rfl).1, (h.own.lt g rfl).2⟩
theorem Fg.put {W wr : World} {g cap n : Nat} {F : List Int} (h : Fg W wr g cap n F) (j : Nat) (x : Int) : Fg W (wr.setCell ⟨g, j, none⟩ (.int .i64 x)) g cap n (F.set j x) := by
  have hs := h.own.stored j (.int .i64 x)
  refine ⟨by unfold Ri; rw [List.map_set]; exact hs.1, below_st (p := ⟨g, j, none⟩) h.bel h.at_.1 _⟩
theorem Fg.up {W wr w2 : World} {g cap n : Nat} {F : List Int} (h : Fg W wr g cap n F) (hb : Below wr.heap.size wr w2) : Fg W w2 g cap n F := ⟨own_below h.own hb, below_on h.bel hb⟩
theorem RowO.set {w : World} {A : Option Addr} {L : List Int} {v : Value} {g j : Nat} {u : Value} (h : RowO w A L v) (hA : ∀ g' o s, A = some ⟨g', o, s⟩ → g' ≠ g) : RowO (w.setCell ⟨g, j, none⟩ u) A L v := by
  rcases h with h | ⟨g', o, hA1, hg, hv, hc⟩
  · exact Or.inl h
  · refine Or.inr ⟨g', o, hA1, by simpa using hg, hv, fun k x hx => ?_⟩
    have hne := hA g' o none hA1
    have hh := heap_setCell_other w ⟨g, j, none⟩ g' u hne
    have := hc k x hx
    simp only [World.cell?, hh] at this ⊢
    exact this
theorem drop_snoc {α : Type} {Q : List α} {t : α} {k : Nat} (h : k ≤ Q.length) : (Q ++ [t]).drop k = Q.drop k ++ [t] := List.drop_append_of_le_length h
theorem drop_get {α : Type} {Q : List α} {x : α} {k : Nat} (h : Q[k]? = some x) : Q.drop k = x :: Q.drop (k + 1) := by
  have hl := get_ltF h
  rw [List.drop_eq_getElem_cons hl]
  congr 1
  rw [List.getElem?_eq_getElem hl] at h
  exact Option.some.inj h
theorem mu_cons (f : List Int) (a : Int) (q : List Int) : mu f (a :: q) = mu f q + 1 := by unfold mu; rw [List.length_cons]; omega
set_option maxRecDepth 100000 in
set_option maxHeartbeats 4000000 in
theorem rds_any (c : Cd) (w : World) (hok : c.ok w) (hf : c.few) : Calls Try.prog 44 #[(Value.agg #[Value.int IntKind.i64 (Cd.st c), Value.int IntKind.i64 (Cd.lo c), Value.slice (Cd.iA c) (Cd.n c) (Cd.ic c), Value.slice (Cd.hA c) (Cd.hn c) (Cd.hc c), Value.slice (Cd.mA c) (Cd.mn c) (Cd.mc c), Value.slice (Cd.lA c) (Cd.ln c) (Cd.lc c)])] w (IntsOwn w (distL c)) := by
  have hB : Below w.heap.size w w := Below.refl _ _
  have OK := Lib.hid hok
  have hcn := hf.n
  clear hok
  go_enter Try.func44, Try.ntmps44
  go_upto_region 1 with fail
  have R := World.alloc_heap_new w (.cells #[.int .i64 c.st, .int .i64 c.lo, .slice c.iA c.n c.ic, .slice c.hA c.hn c.hc, .slice c.mA c.mn c.mc, .slice c.lA c.ln c.lc] 50)
  replace hB := below_al hB (.cells #[.int .i64 c.st, .int .i64 c.lo, .slice c.iA c.n c.ic, .slice c.hA c.hn c.hc, .slice c.mA c.mn c.mc, .slice c.lA c.ln c.lc] 50)
  generalize w.alloc (.cells #[.int .i64 c.st, .int .i64 c.lo, .slice c.iA c.n c.ic, .slice c.hA c.hn c.hc, .slice c.mA c.mn c.mc, .slice c.lA c.ln c.lc] 50) = W1 at R hB ⊢
  obtain ⟨r0, r1, r2, r3, r4, r5⟩ := six_cells R
  have y1 := lt_heap R
  replace R := Lib.hid R
  have OK1 := Lib.hid (OK.out.up hB)
  have HB := Lib.hid hB
  have HN0 := Lib.hid (show Nxt W1 (W1.alloc (.cells #[] 3)) (List.replicate 0 (-1)) (.slice (some ⟨W1.heap.size, 0, none⟩) 0 0) from ⟨own_lit0 (Nat.le_refl _), below_al (Below.refl _ _) _⟩)
  clear hB
  go_wp2
  clear r0 r1 r2 r3 r4 r5
  go_loopw [3, 4] (fun v z wr => ∃ k : Nat, k ≤ c.n ∧ z = .int .i64 k ∧ Nxt W1 wr (List.replicate k (-1)) v) (fun _ z _ => c.n - (intOf z).toNat)
  case atStart => exact ⟨0, Nat.zero_le _, rfl, HN0.out⟩
  case round =>
    clear HN0
    obtain ⟨k, hk, rfl, N⟩ := hrel
    have RBr := Lib.hid ((N.bel.block _ y1).trans R.out)
    obtain ⟨r0, r1, r2, r3, r4, r5⟩ := six_cells RBr.out
    have yr := lt_heap RBr.out
    have hln := N.bel.size
    have hown := N.own
    rw [List.length_replicate] at hown
    have HOWN := Lib.hid hown
    have HN := Lib.hid N
    clear N hown
    by_cases hlt : k < c.n
    · have hk0 : (0 : Int) ≤ (k : Int) := by omega
      have hk1 : (k : Int) < (c.n : Int) := by omega
      go_wp2_with (at_builtin; refine wpList_append_liesF (by rfl) _ _ (by rfl) W1.heap.size k 1 _ (-1) _ _ (by rfl) (HOWN.out.alloc _) (by rfl) (Row.one (ten_cell0 (new_at rfl)) (by simp)) (by omega) (by simp; omega) ?_; intro A7 c7 w4 ho4 hg4 hl4)
      have hn4 := HN.out.add (by rw [List.length_replicate]; exact ho4) hg4
      exact ⟨⟨k + 1, hlt, by go_num, by rw [List.replicate_succ']; exact hn4⟩, by simp [intOf]; omega⟩
    · obtain ⟨hkn⟩ : c.n = k := by omega
      obtain ⟨A, cap, rfl, hcc, hcm, _⟩ := own_form HOWN.out
      by_cases hn0 : c.n = 0
      · have HD := Lib.hid (show distL c = [] from if_pos hn0)
        have hbe : ((c.n : Int) == 0) = true := by simp [hn0]
        have HO0 := Lib.hid (show wr.ownsRow W1.heap.size 3 1 (.slice A c.n cap) 0 (Ri []) from by have := HOWN.out; rw [hn0] at this ⊢; exact this)
        clear hn0 hcc
        go_wp2
        go_ret
        rw [HD.out]
        exact ⟨_, rfl, own_leF HO0.out HB.out.size, below_on HB.out HN.out.bel⟩
      · have hpos : 0 < c.n := by omega
        have HD := Lib.hid (show distL c = dsOut c (c.n + 1) ((List.replicate c.n (-1)).set 0 0) [0] from if_neg hn0)
        obtain ⟨g, cap2, hv, hg0, hg1⟩ := HOWN.out.form hpos
        injection hv with hA _ hcap
        subst hA hcap
        have HFR := Lib.hid (show Fg W1 wr g cap c.n (List.replicate c.n (-1)) from ⟨HOWN.out, HN.out.bel⟩)
        have hcl := HFR.out.cell hpos
        have hfz := HFR.out.own.frozenAt 0
        have hn1 : (0 : Int) < (c.n : Int) := by omega
        have hbe : ((c.n : Int) == 0) = false := by simp [hn0]
        go_upto_region 9 with fail
        have HFP := Lib.hid (HFR.out.put 0 0)
        clear hcl hfz HFR HN HOWN RBr r0 r1 r2 r3 r4 r5 yr hln
        generalize wr.setCell ⟨g, 0, none⟩ (.int .i64 0) = W3 at HFP ⊢
        have HQ0 := Lib.hid (show (W3.alloc (.cells #[.int .i64 0] 3)).ownsRow W1.heap.size 3 1 (.slice (some ⟨W3.heap.size, 0, none⟩) 1 1) 1 (Ri [0]) from own_one (w := W3) 0 HFP.out.bel.size)
        have HF1 := Lib.hid (HFP.out.up (below_al (Below.refl W3.heap.size W3) (.cells #[.int .i64 0] 3)))
        have hz3 := HFP.out.at_.2
        have HAP0 := Lib.hid (show (Value.slice (some ⟨W3.heap.size, 0, none⟩) 1 1).ownBlock ≠ some g from fun e => by have e2 : W3.heap.size = g := Option.some.inj e; omega)
        clear HFP hz3 hg1
        go_wp2
        clear hlt hbe
        go_loopw [5, 6] (fun v z wr => ∃ (i : Nat) (f Q : List Int), z = .int .i64 i ∧ i ≤ Q.length ∧ mu f (Q.drop i) + i = c.n ∧ dsOut c (c.n - i + 1) f (Q.drop i) = distL c ∧ Fg W1 wr g cap c.n f ∧ wr.ownsRow W1.heap.size 3 1 v Q.length (Ri Q) ∧ v.ownBlock ≠ some g ∧ Qok c.n f (Q.drop i) ∧ Bdd c.n f) (fun _ z _ => c.n - (intOf z).toNat)
        case atStart =>
          refine ⟨0, _, [0], rfl, Nat.zero_le _, by rw [List.drop_zero, mu_start hpos]; omega, HD.out.symm, HF1.out, HQ0.out, HAP0.out, fun x hx => ?_, ?_⟩
          · obtain rfl := List.mem_singleton.1 hx
            exact ⟨Int.le_refl _, hn1, by rw [show (0 : Int).toNat = 0 from rfl, getD_selfF (by simpa using hpos)]; exact Int.le_refl _⟩
          · intro j x hx
            have hn := neg_set (List.replicate c.n (-1)) 0 0 (by rw [List.getD_eq_getElem?_getD, List.getElem?_replicate, if_pos hpos]; decide) (Int.le_refl _)
            have h2 := List.length_filter_le (fun (x : Int) => decide (x < 0)) (List.replicate c.n (-1))
            rw [List.length_replicate] at h2
            rw [List.getElem?_set] at hx
            split at hx
            · split at hx
              · obtain rfl := Option.some.inj hx; omega
              · cases hx
            · rw [List.getElem?_replicate] at hx
              split at hx
              · obtain rfl := Option.some.inj hx; omega
              · cases hx
        case round =>
          clear HQ0 HF1 HAP0
          obtain ⟨i, f, Q, rfl, hiQ, hmu, hds, hfr, how, hap, hq, hbd⟩ := hrel
          have HFR := Lib.hid hfr
          have HDS := Lib.hid hds
          have HOW := Lib.hid how
          have HAP := Lib.hid hap
          have HBD := Lib.hid hbd
          have hgb := hfr.at_.2
          have RBr := Lib.hid ((hfr.bel.block _ y1).trans R.out)
          have OKr := Lib.hid (OK1.out.up hfr.bel)
          have hqn : Q.length ≤ c.n := by have h1 := hmu; unfold mu at h1; rw [List.length_drop] at h1; omega
          clear hds hfr hap hbd
          by_cases hlt : i < Q.length
          · obtain ⟨a, ha⟩ := get_someF hlt
            have hdg := drop_get ha
            rw [hdg] at hmu hq
            rw [mu_cons] at hmu
            obtain ⟨ha0, ha1, ha2⟩ := hq a List.mem_cons_self
            obtain ⟨ka, rfl⟩ : ∃ ka : Nat, a = (ka : Int) := ⟨a.toNat, by omega⟩
            rw [Int.toNat_natCast] at ha2
            have HQ := Lib.hid (show Qok c.n f (Q.drop (i + 1)) from fun x hx => hq x (List.mem_cons_of_mem _ hx))
            have HDG := Lib.hid hdg
            have HA := Lib.hid ha
            have HA2 := Lib.hid ha2
            have HMU := Lib.hid hmu
            obtain ⟨gq, capq, rfl, hgq0, hgq1⟩ := how.form (by omega)
            have hcq : wr.cell? ⟨gq, i, none⟩ = some (.int .i64 (ka : Int)) := by
              rw [how.cellAt i (by omega)]
              unfold Ri
              rw [List.getElem?_map, ha]; rfl
            have hi0 : (0 : Int) ≤ (i : Int) := by omega
            have hi1 : (i : Int) < (Q.length : Int) := by omega
            obtain ⟨r0, r1, r2, r3, r4, r5⟩ := six_cells RBr.out
            have yr := lt_heap RBr.out
            obtain ⟨S, hS⟩ : ∃ S, edL c ka = S := ⟨_, rfl⟩
            have HS := Lib.hid hS
            have hm1 : S.length ≤ 142 := by rw [← hS]; exact edL_few OKr.out hf ka
            have HSB := Lib.hid (show ∀ t ∈ S, 0 ≤ t ∧ t < c.n by rw [← hS]; exact edL_bd OKr.out ka)
            obtain ⟨m, hm⟩ : ∃ m, S.length = m := ⟨_, rfl⟩
            have HM := Lib.hid hm
            rw [hm] at hm1
            clear hS hm ha hdg hq ha2 hmu how
            have KS := Lib.hid (fun (w' : World) (hb : Below wr.heap.size wr w') => show w'.cell? ⟨w.heap.size, 0, none⟩ = some (.int .i64 c.st) ∧ w'.cell? ⟨w.heap.size, 1, none⟩ = some (.int .i64 c.lo) ∧ w'.cell? ⟨w.heap.size, 2, none⟩ = some (.slice c.iA c.n c.ic) ∧ w'.cell? ⟨w.heap.size, 3, none⟩ = some (.slice c.hA c.hn c.hc) ∧ w'.cell? ⟨w.heap.size, 4, none⟩ = some (.slice c.mA c.mn c.mc) ∧ w'.cell? ⟨w.heap.size, 5, none⟩ = some (.slice c.lA c.ln c.lc) ∧ w'.cell? ⟨gq, i, none⟩ = some (.int .i64 (ka : Int)) ∧ Below wr.heap.size wr w' from ⟨(hb.cell (p := ⟨w.heap.size, 0, none⟩) yr).trans r0, (hb.cell (p := ⟨w.heap.size, 1, none⟩) yr).trans r1, (hb.cell (p := ⟨w.heap.size, 2, none⟩) yr).trans r2, (hb.cell (p := ⟨w.heap.size, 3, none⟩) yr).trans r3, (hb.cell (p := ⟨w.heap.size, 4, none⟩) yr).trans r4, (hb.cell (p := ⟨w.heap.size, 5, none⟩) yr).trans r5, (hb.cell (p := ⟨gq, i, none⟩) hgq1).trans hcq, hb⟩)
            go_wp2
            refine regN_start (N := 6) (S := (fun w' => w'.cell? ⟨w.heap.size, 0, none⟩ = some (.int .i64 c.st) ∧ w'.cell? ⟨w.heap.size, 1, none⟩ = some (.int .i64 c.lo) ∧ w'.cell? ⟨w.heap.size, 2, none⟩ = some (.slice c.iA c.n c.ic) ∧ w'.cell? ⟨w.heap.size, 3, none⟩ = some (.slice c.hA c.hn c.hc) ∧ w'.cell? ⟨w.heap.size, 4, none⟩ = some (.slice c.mA c.mn c.mc) ∧ w'.cell? ⟨w.heap.size, 5, none⟩ = some (.slice c.lA c.ln c.lc) ∧ w'.cell? ⟨gq, i, none⟩ = some (.int .i64 (ka : Int)) ∧ Below wr.heap.size wr w')) (by kernel_rfl) ?_
            change wpAnyN _ _ _ _ _ _ _ #[false, false, false, false, false, false, false] _ (World.drew _)
            have hS0 := KS.out _ (Below.refl wr.heap.size wr).drew
            refine regN_take (i := 0) (d := (some 33)) (v := ?v13x1) (l2 := #[true, false, false, false, false, false, false]) rfl rfl rfl (by kernel_rfl) (by kernel_rfl) (by kernel_rfl) (by kernel_rfl) (fun _ _ _ h => h) (by rfl) ?hv13x1 hS0 ?h13x1
            case hv13x1 => intro u hSu; (try dsimp only at hSu); (try go_split_ands); go_simp; (try with_reducible rfl)
            (try simp only [Act.put, List.setIfInBounds_toArray, List.set_cons_zero, List.set_cons_succ])
            refine regN_take (i := 1) (d := (some 34)) (v := ?v13x2) (l2 := #[true, true, false, false, false, false, false]) rfl rfl rfl (by kernel_rfl) (by kernel_rfl) (by kernel_rfl) (by kernel_rfl) (fun _ _ _ h => h) (by rfl) ?hv13x2 hS0 ?h13x2
            case hv13x2 => intro u hSu; clear hSu; go_simp; (try with_reducible rfl)
            (try simp only [Act.put, List.setIfInBounds_toArray, List.set_cons_zero, List.set_cons_succ])
            refine regN_take (i := 2) (d := (some 35)) (v := ?v13x3) (l2 := #[true, true, true, false, false, false, false]) rfl rfl rfl (by kernel_rfl) (by kernel_rfl) (by kernel_rfl) (by kernel_rfl) (fun _ _ _ h => h) (by rfl) ?hv13x3 hS0 ?h13x3
            case hv13x3 => intro u hSu; clear hSu; go_simp; (try with_reducible rfl)
            (try simp only [Act.put, List.setIfInBounds_toArray, List.set_cons_zero, List.set_cons_succ])
            refine regN_take (i := 3) (d := (some 36)) (v := ?v13x4) (l2 := #[true, true, true, true, false, false, false]) rfl rfl rfl (by kernel_rfl) (by kernel_rfl) (by kernel_rfl) (by kernel_rfl) (fun _ _ _ h => h) (by rfl) ?hv13x4 hS0 ?h13x4
            case hv13x4 => intro u hSu; clear hSu; go_simp; (try with_reducible rfl)
            (try simp only [Act.put, List.setIfInBounds_toArray, List.set_cons_zero, List.set_cons_succ])
            refine regN_take (i := 4) (d := (some 37)) (v := ?v13x5) (l2 := #[true, true, true, true, true, false, false]) rfl rfl rfl (by kernel_rfl) (by kernel_rfl) (by kernel_rfl) (by kernel_rfl) (fun _ _ _ h => h) (by rfl) ?hv13x5 hS0 ?h13x5
            case hv13x5 => intro u hSu; (try dsimp only at hSu); (try go_split_ands); go_simp; (try with_reducible rfl)
            (try simp only [Act.put, List.setIfInBounds_toArray, List.set_cons_zero, List.set_cons_succ])
            refine regN_ready (rs := [5]) (by kernel_rfl) (by simp) ?_
            refine (AllN.cons (i := 5) (l2 := #[true, true, true, true, true, true, false]) rfl rfl (fun K hK => ?_) AllN.nil)
            go_simp
            go_at_call 77
            (with_reducible refine (red_any c _ _ (OKr.out.up (Below.refl _ _).drew) hf).mono ?_)
            rintro e w2 ⟨A3, c3, rfl, hc3, hm3, _, hr3, hA3, hb2⟩
            rw [HS.out] at hc3 hr3
            rw [HM.out] at hc3
            rw [HS.out, HM.out]
            replace hb2 : Below wr.heap.size wr w2 := below_drew hb2
            go_simp
            have hS1 : ((fun w' => w'.cell? ⟨w.heap.size, 0, none⟩ = some (.int .i64 c.st) ∧ w'.cell? ⟨w.heap.size, 1, none⟩ = some (.int .i64 c.lo) ∧ w'.cell? ⟨w.heap.size, 2, none⟩ = some (.slice c.iA c.n c.ic) ∧ w'.cell? ⟨w.heap.size, 3, none⟩ = some (.slice c.hA c.hn c.hc) ∧ w'.cell? ⟨w.heap.size, 4, none⟩ = some (.slice c.mA c.mn c.mc) ∧ w'.cell? ⟨w.heap.size, 5, none⟩ = some (.slice c.lA c.ln c.lc) ∧ w'.cell? ⟨gq, i, none⟩ = some (.int .i64 (ka : Int)) ∧ Below wr.heap.size wr w') : World → Prop) _ := KS.out w2 hb2
            refine hK _ _ (fun _ => hS1) ?_
            clear hK K
            (try simp only [Act.put, List.setIfInBounds_toArray, List.set_cons_zero, List.set_cons_succ])
            refine regN_ready (rs := [6]) (by kernel_rfl) (by simp) ?_
            refine (AllN.cons (i := 6) (l2 := #[true, true, true, true, true, true, true]) rfl rfl (fun K hK => ?_) AllN.nil)
            go_simp
            refine hK _ _ (fun h => absurd rfl h) ?_
            clear hK K
            (try simp only [Act.put, List.setIfInBounds_toArray, List.set_cons_zero, List.set_cons_succ])
            refine regN_done (by kernel_rfl) ?_ _
            have HR3 := Lib.hid (RowO.of hr3 HOW.out hA3)
            have HF2 := Lib.hid (HFR.out.up hb2)
            have HO2 := Lib.hid (own_below HOW.out hb2)
            have HA3 := Lib.hid (show ∀ g' o s, A3 = some ⟨g', o, s⟩ → g' ≠ g from fun g' o s e => by have h3 : wr.heap.size ≤ g' := hA3 g' o s e; omega)
            clear r0 r1 r2 r3 r4 r5 yr hr3 hA3 hb2 KS RBr OKr HFR HOW hcq hgq1 hgb hS0 hS1
            go_wp2
            go_loopw [5, 8] (fun v z wx => ∃ (j : Nat) (f2 Q2 : List Int), j ≤ m ∧ z = .int .i64 j ∧ dsIn ka f (Q.drop (i + 1)) S = dsIn ka f2 (Q2.drop (i + 1)) (S.drop j) ∧ mu f2 (Q2.drop (i + 1)) = mu f (Q.drop (i + 1)) ∧ Q2[i]? = some (ka : Int) ∧ Fg W1 wx g cap c.n f2 ∧ wx.ownsRow W1.heap.size 3 1 v Q2.length (Ri Q2) ∧ v.ownBlock ≠ some g ∧ Qok c.n f2 (Q2.drop (i + 1)) ∧ Bdd c.n f2 ∧ 0 ≤ f2.getD ka 0 ∧ RowO wx A3 S v) (fun _ z _ => m - (intOf z).toNat)
            case atStart => exact ⟨0, f, Q, Nat.zero_le _, rfl, rfl, rfl, HA.out, HF2.out, HO2.out, HAP.out, HQ.out, HBD.out, HA2.out, HR3.out⟩
            case round =>
              clear HF2 HO2 HAP HQ HBD HA2 HR3
              obtain ⟨j, f2, Q2, hj, rfl, hst, hmu2, hqa, hfr, how, hap, hq, hbd, ha2, hrow⟩ := hrel
              have HST := Lib.hid hst
              have HMX := Lib.hid hmu2
              have HFR := Lib.hid hfr
              have HOW := Lib.hid how
              have HAP := Lib.hid hap
              have HQ := Lib.hid hq
              have HBD := Lib.hid hbd
              have HROW := Lib.hid hrow
              have HQA := Lib.hid hqa
              have hil := get_ltF hqa
              have hq2 : Q2.length ≤ 600 := by have h1 := HMU.out; have h2 := hmu2; unfold mu at h1 h2; rw [List.length_drop, List.length_drop] at h2; rw [List.length_drop] at h1; omega
              have hgb := hfr.at_.2
              have hfl := hfr.len
              clear hst hmu2 hap hq hbd
              by_cases hjt : j < m
              · obtain ⟨t, ht⟩ := get_someF (l := S) (k := j) (by rw [HM.out]; exact hjt)
                obtain ⟨ht0, ht1⟩ := HSB.out t (List.mem_of_getElem? ht)
                obtain ⟨kt, rfl⟩ : ∃ kt : Nat, t = (kt : Int) := ⟨t.toNat, by omega⟩
                obtain ⟨gs, os, rfl, hgs, hcs⟩ := row_get hrow.row ht
                have HDR := Lib.hid (drop_get ht)
                obtain ⟨gq, capq, rfl, hgq0, hgq1⟩ := how.form (by omega)
                have hcq : wr.cell? ⟨gq, i, none⟩ = some (.int .i64 (ka : Int)) := by
                  rw [how.cellAt i (by omega)]
                  unfold Ri
                  rw [List.getElem?_map, hqa]; rfl
                have hct := hfr.cell (j := kt) (by omega)
                have hca := hfr.cell (j := ka) (by omega)
                have hfz := hfr.own.frozenAt kt
                have hj0 : (0 : Int) ≤ (j : Int) := by omega
                have hj1 : (j : Int) < (m : Int) := by omega
                have hi1 : (i : Int) < (Q2.length : Int) := by omega
                have hka1 : (ka : Int) < (c.n : Int) := by omega
                have hkt1 : (kt : Int) < (c.n : Int) := by omega
                have hka0 : (0 : Int) ≤ (ka : Int) := by omega
                have hkt0 : (0 : Int) ≤ (kt : Int) := by omega
                obtain ⟨ft, hft⟩ : ∃ ft, f2.getD kt 0 = ft := ⟨_, rfl⟩
                obtain ⟨fa, hfa⟩ : ∃ fa, f2.getD ka 0 = fa := ⟨_, rfl⟩
                have hfab : fa ≤ 300 := by
                  have := HBD.out ka fa (by rw [← hfa, List.getD_eq_getElem?_getD, List.getElem?_eq_getElem (by omega)]; rfl)
                  omega
                have HFT := Lib.hid (And.intro hft (And.intro hfa ha2))
                rw [hft] at hct
                rw [hfa] at hca
                clear ht hrow hfr ha2 hft hfa how hqa
                by_cases hlt0 : ft < 0
                · have hw1 : IntKind.i64.wrap (fa + 1) = fa + 1 := by have := HFT.out.2.2; rw [HFT.out.2.1] at this; simp [IntKind.wrap, IntKind.bits, IntKind.signed]; omega
                  have hlt1 : f2.getD kt 0 < 0 := by rw [HFT.out.1]; exact hlt0
                  have hge : 0 ≤ f2.getD ka 0 := HFT.out.2.2
                  have HSTN := Lib.hid (show dsIn ka f (Q.drop (i + 1)) S = dsIn ka (f2.set kt (fa + 1)) ((Q2 ++ [(kt : Int)]).drop (i + 1)) (S.drop (j + 1)) by
                    rw [HST.out, HDR.out, drop_snoc (k := i + 1) hil]
                    show (if f2.getD (kt : Int).toNat 0 < 0 then _ else _) = _
                    rw [Int.toNat_natCast, if_pos hlt1, Int.toNat_natCast, HFT.out.2.1])
                  have HMUN := Lib.hid (show mu (f2.set kt (fa + 1)) ((Q2 ++ [(kt : Int)]).drop (i + 1)) = mu f (Q.drop (i + 1)) by
                    rw [← HMX.out, drop_snoc (k := i + 1) hil]
                    have hn := neg_set f2 kt (fa + 1) hlt1 (by rw [HFT.out.2.1] at hge; omega)
                    unfold mu
                    rw [List.length_append]
                    simp only [List.length_cons, List.length_nil]
                    omega)
                  have HQN := Lib.hid (show Qok c.n (f2.set kt (fa + 1)) ((Q2 ++ [(kt : Int)]).drop (i + 1)) by
                    rw [drop_snoc (k := i + 1) hil]
                    have := HQ.out.put (t := (kt : Int)) (y := fa + 1) (by omega) ht1 hfl (by rw [HFT.out.2.1] at hge; omega)
                    rw [Int.toNat_natCast] at this
                    exact this)
                  have HBN := Lib.hid (show Bdd c.n (f2.set kt (fa + 1)) by
                    have := HBD.out.put (k := kt) (a := ka) hlt1 hge (by omega)
                    rw [HFT.out.2.1] at this
                    exact this)
                  have HAN := Lib.hid (show 0 ≤ (f2.set kt (fa + 1)).getD ka 0 by
                    rw [getD_setF (fun e => by rw [e] at hlt1; omega)]
                    exact hge)
                  have HFN := Lib.hid (HFR.out.put kt (fa + 1))
                  have HON := Lib.hid (HOW.out.kept (grown_set (w := wr) (g := g) (j := kt) (u := .int .i64 (fa + 1))) (Or.inr HAP.out))
                  have HRN := Lib.hid (HROW.out.set (g := g) (j := kt) (u := .int .i64 (fa + 1)) HA3.out)
                  have HQAN := Lib.hid (show (Q2 ++ [(kt : Int)])[i]? = some (ka : Int) by rw [List.getElem?_append_left hil]; exact HQA.out)
                  clear hlt1 hge
                  go_wp2
                  have KS := And.intro (show wr.drew.cell? ⟨gs, os + j, none⟩ = some (.int .i64 (kt : Int)) from hcs) (And.intro (show wr.drew.cell? ⟨gq, i, none⟩ = some (.int .i64 (ka : Int)) from hcq) (And.intro (show wr.drew.cell? ⟨g, ka, none⟩ = some (.int .i64 fa) from hca) (rfl : wr.drew = wr.drew)))
                  replace KS := Lib.hid KS
                  refine regN_start (N := 14) (S := (fun w' => w'.cell? ⟨gs, os + j, none⟩ = some (.int .i64 (kt : Int)) ∧ w'.cell? ⟨gq, i, none⟩ = some (.int .i64 (ka : Int)) ∧ w'.cell? ⟨g, ka, none⟩ = some (.int .i64 fa) ∧ w' = wr.drew)) (by kernel_rfl) ?_
                  change wpAnyN _ _ _ _ _ _ _ #[false, false, false, false, false, false, false, false, false, false, false, false, false, false, false] _ (World.drew _)
                  have hS0 := KS.out
                  refine regN_take (i := 0) (d := (some 53)) (v := ?v18x1) (l2 := #[true, false, false, false, false, false, false, false, false, false, false, false, false, false, false]) rfl rfl rfl (by kernel_rfl) (by kernel_rfl) (by kernel_rfl) (by kernel_rfl) (fun _ _ _ h => h) (by rfl) ?hv18x1 hS0 ?h18x1
                  case hv18x1 => intro u hSu; clear hSu; go_simp; (try with_reducible rfl)
                  (try simp only [Act.put, List.setIfInBounds_toArray, List.set_cons_zero, List.set_cons_succ])
                  refine regN_take (i := 1) (d := (some 54)) (v := ?v18x2) (l2 := #[true, true, false, false, false, false, false, false, false, false, false, false, false, false, false]) rfl rfl rfl (by kernel_rfl) (by kernel_rfl) (by kernel_rfl) (by kernel_rfl) (fun _ _ _ h => h) (by rfl) ?hv18x2 hS0 ?h18x2
                  case hv18x2 => intro u hSu; clear hSu; go_simp; (try with_reducible rfl)
                  (try simp only [Act.put, List.setIfInBounds_toArray, List.set_cons_zero, List.set_cons_succ])
                  refine regN_take (i := 2) (d := (some 55)) (v := ?v18x3) (l2 := #[true, true, true, false, false, false, false, false, false, false, false, false, false, false, false]) rfl rfl rfl (by kernel_rfl) (by kernel_rfl) (by kernel_rfl) (by kernel_rfl) (fun _ _ _ h => h) (by rfl) ?hv18x3 hS0 ?h18x3
                  case hv18x3 => intro u hSu; clear hSu; go_simp; (try with_reducible rfl)
                  (try simp only [Act.put, List.setIfInBounds_toArray, List.set_cons_zero, List.set_cons_succ])
                  refine regN_take (i := 3) (d := (some 56)) (v := ?v18x4) (l2 := #[true, true, true, true, false, false, false, false, false, false, false, false, false, false, false]) rfl rfl rfl (by kernel_rfl) (by kernel_rfl) (by kernel_rfl) (by kernel_rfl) (fun _ _ _ h => h) (by rfl) ?hv18x4 hS0 ?h18x4
                  case hv18x4 => intro u hSu; clear hSu; go_simp; (try with_reducible rfl)
                  (try simp only [Act.put, List.setIfInBounds_toArray, List.set_cons_zero, List.set_cons_succ])
                  refine regN_take (i := 4) (d := (some 57)) (v := ?v18x5) (l2 := #[true, true, true, true, true, false, false, false, false, false, false, false, false, false, false]) rfl rfl rfl (by kernel_rfl) (by kernel_rfl) (by kernel_rfl) (by kernel_rfl) (fun _ _ _ h => h) (by rfl) ?hv18x5 hS0 ?h18x5
                  case hv18x5 => intro u hSu; (try dsimp only at hSu); (try go_split_ands); go_simp; (try with_reducible rfl)
                  (try simp only [Act.put, List.setIfInBounds_toArray, List.set_cons_zero, List.set_cons_succ])
                  refine regN_take (i := 5) (d := (some 58)) (v := ?v18x6) (l2 := #[true, true, true, true, true, true, false, false, false, false, false, false, false, false, false]) rfl rfl rfl (by kernel_rfl) (by kernel_rfl) (by kernel_rfl) (by kernel_rfl) (fun _ _ _ h => h) (by rfl) ?hv18x6 hS0 ?h18x6
                  case hv18x6 => intro u hSu; clear hSu; go_simp; (try with_reducible rfl)
                  (try simp only [Act.put, List.setIfInBounds_toArray, List.set_cons_zero, List.set_cons_succ])
                  refine regN_take (i := 6) (d := (some 59)) (v := ?v18x7) (l2 := #[true, true, true, true, true, true, true, false, false, false, false, false, false, false, false]) rfl rfl rfl (by kernel_rfl) (by kernel_rfl) (by kernel_rfl) (by kernel_rfl) (fun _ _ _ h => h) (by rfl) ?hv18x7 hS0 ?h18x7
                  case hv18x7 => intro u hSu; clear hSu; go_simp; (try with_reducible rfl)
                  (try simp only [Act.put, List.setIfInBounds_toArray, List.set_cons_zero, List.set_cons_succ])
                  refine regN_take (i := 7) (d := (some 60)) (v := ?v18x8) (l2 := #[true, true, true, true, true, true, true, true, false, false, false, false, false, false, false]) rfl rfl rfl (by kernel_rfl) (by kernel_rfl) (by kernel_rfl) (by kernel_rfl) (fun _ _ _ h => h) (by rfl) ?hv18x8 hS0 ?h18x8
                  case hv18x8 => intro u hSu; clear hSu; go_simp; (try with_reducible rfl)
                  (try simp only [Act.put, List.setIfInBounds_toArray, List.set_cons_zero, List.set_cons_succ])
                  refine regN_take (i := 8) (d := (some 61)) (v := ?v18x9) (l2 := #[true, true, true, true, true, true, true, true, true, false, false, false, false, false, false]) rfl rfl rfl (by kernel_rfl) (by kernel_rfl) (by kernel_rfl) (by kernel_rfl) (fun _ _ _ h => h) (by rfl) ?hv18x9 hS0 ?h18x9
                  case hv18x9 => intro u hSu; clear hSu; go_simp; (try with_reducible rfl)
                  (try simp only [Act.put, List.setIfInBounds_toArray, List.set_cons_zero, List.set_cons_succ])
                  refine regN_take (i := 9) (d := (some 62)) (v := ?v18x10) (l2 := #[true, true, true, true, true, true, true, true, true, true, false, false, false, false, false]) rfl rfl rfl (by kernel_rfl) (by kernel_rfl) (by kernel_rfl) (by kernel_rfl) (fun _ _ _ h => h) (by rfl) ?hv18x10 hS0 ?h18x10
                  case hv18x10 => intro u hSu; (try dsimp only at hSu); (try go_split_ands); go_simp; (try with_reducible rfl)
                  (try simp only [Act.put, List.setIfInBounds_toArray, List.set_cons_zero, List.set_cons_succ])
                  refine regN_take (i := 10) (d := (some 63)) (v := ?v18x11) (l2 := #[true, true, true, true, true, true, true, true, true, true, true, false, false, false, false]) rfl rfl rfl (by kernel_rfl) (by kernel_rfl) (by kernel_rfl) (by kernel_rfl) (fun _ _ _ h => h) (by rfl) ?hv18x11 hS0 ?h18x11
                  case hv18x11 => intro u hSu; clear hSu; go_simp; (try with_reducible rfl)
                  (try simp only [Act.put, List.setIfInBounds_toArray, List.set_cons_zero, List.set_cons_succ])
                  refine regN_take (i := 11) (d := (some 64)) (v := ?v18x12) (l2 := #[true, true, true, true, true, true, true, true, true, true, true, true, false, false, false]) rfl rfl rfl (by kernel_rfl) (by kernel_rfl) (by kernel_rfl) (by kernel_rfl) (fun _ _ _ h => h) (by rfl) ?hv18x12 hS0 ?h18x12
                  case hv18x12 => intro u hSu; (try dsimp only at hSu); (try go_split_ands); go_simp; (try with_reducible rfl)
                  (try simp only [Act.put, List.setIfInBounds_toArray, List.set_cons_zero, List.set_cons_succ])
                  refine regN_take (i := 12) (d := (some 65)) (v := ?v18x13) (l2 := #[true, true, true, true, true, true, true, true, true, true, true, true, true, false, false]) rfl rfl rfl (by kernel_rfl) (by kernel_rfl) (by kernel_rfl) (by kernel_rfl) (fun _ _ _ h => h) (by rfl) ?hv18x13 hS0 ?h18x13
                  case hv18x13 => intro u hSu; clear hSu; go_simp; (try with_reducible rfl)
                  (try simp only [Act.put, List.setIfInBounds_toArray, List.set_cons_zero, List.set_cons_succ])
                  refine regN_take (i := 13) (d := (some 66)) (v := ?v18x14) (l2 := #[true, true, true, true, true, true, true, true, true, true, true, true, true, true, false]) rfl rfl rfl (by kernel_rfl) (by kernel_rfl) (by kernel_rfl) (by kernel_rfl) (fun _ _ _ h => h) (by rfl) ?hv18x14 hS0 ?h18x14
                  case hv18x14 => intro u hSu; clear hSu; go_simp; (try with_reducible rfl)
                  (try simp only [Act.put, List.setIfInBounds_toArray, List.set_cons_zero, List.set_cons_succ])
                  refine regN_ready (rs := [14]) (by kernel_rfl) (by simp) ?_
                  refine (AllN.cons (i := 14) (l2 := #[true, true, true, true, true, true, true, true, true, true, true, true, true, true, true]) rfl rfl (fun K hK => ?_) AllN.nil)
                  go_simp
                  refine hK _ _ (fun h => absurd rfl h) ?_
                  clear hK K
                  (try simp only [Act.put, List.setIfInBounds_toArray, List.set_cons_zero, List.set_cons_succ])
                  refine regN_done (by kernel_rfl) ?_ _
                  have hcs6 : (wr.setCell ⟨g, kt, none⟩ (.int .i64 (fa + 1))).drew.cell? ⟨gs, os + j, none⟩ = some (.int .i64 (kt : Int)) := by
                    have hh := heap_setCell_other wr ⟨g, kt, none⟩ gs (.int .i64 (fa + 1)) (HA3.out gs os none rfl)
                    show (wr.setCell ⟨g, kt, none⟩ (.int .i64 (fa + 1))).cell? ⟨gs, os + j, none⟩ = _
                    simp only [World.cell?, hh] at hcs ⊢
                    exact hcs
                  have HF6 := Lib.hid (HFN.out.up (Below.refl _ _).drew)
                  have HO6 := Lib.hid (own_below HON.out (Below.refl _ _).drew)
                  have HR6 := Lib.hid (HRN.out.up (Below.refl _ _).drew)
                  have hgs6 : gs < (wr.setCell ⟨g, kt, none⟩ (.int .i64 (fa + 1))).drew.heap.size := by simpa using hgs
                  clear hct hca hfz hcs hgs HFR HOW HROW hcq hS0 KS HFN HON HRN hgb hgq1
                  generalize (wr.setCell ⟨g, kt, none⟩ (.int .i64 (fa + 1))).drew = W6 at hcs6 HF6 HO6 HR6 hgs6 ⊢
                  have hs6 := HF6.out.bel.size
                  go_wp2_with (at_builtin; refine wpList_append_liesF (by rfl) _ _ (by rfl) W1.heap.size Q2.length 1 Q2 (kt : Int) _ _ (by rfl) (HO6.out.alloc _) (by rfl) (Row.one (ten_cell0 (new_at rfl)) (by simp)) (by omega) (by simp; omega) ?_; intro A7 c7 w7 ho7 hg7 hl7)
                  have hfr7 : Fg W1 w7 g cap c.n (f2.set kt (fa + 1)) := ⟨(HF6.out.own.alloc _).kept hg7 (Or.inr (fun e => HAP.out e.symm)), grown_own (below_al HF6.out.bel _) (HO6.out.alloc _) hg7⟩
                  have hap7 : (Value.slice A7 (Q2.length + 1) c7).ownBlock ≠ some g := by
                    rcases hl7 with h | ⟨g7, h, hge7⟩
                    · rw [h]; exact HAP.out
                    · rw [h]; intro e
                      have e2 : g7 = g := Option.some.inj e
                      have := HF6.out.at_.2
                      simp at hge7
                      omega
                  have hr7 := (HR6.out.up (below_al (Below.refl _ _) _)).grow hg7 hl7
                  exact ⟨⟨j + 1, _, Q2 ++ [(kt : Int)], hjt, by go_num, HSTN.out, HMUN.out, HQAN.out, hfr7, by rw [List.length_append]; exact ho7, hap7, HQN.out, HBN.out, HAN.out, hr7⟩, by simp [intOf]; omega⟩
                · have HSTN := Lib.hid (show dsIn ka f (Q.drop (i + 1)) S = dsIn ka f2 (Q2.drop (i + 1)) (S.drop (j + 1)) by
                    rw [HST.out, HDR.out]
                    show (if f2.getD (kt : Int).toNat 0 < 0 then _ else _) = _
                    rw [Int.toNat_natCast, if_neg (by rw [HFT.out.1]; exact hlt0)])
                  go_wp2
                  exact ⟨⟨j + 1, f2, Q2, hjt, by go_num, HSTN.out, HMX.out, HQA.out, HFR.out, HOW.out, HAP.out, HQ.out, HBD.out, HFT.out.2.2, HROW.out⟩, by simp [intOf]; omega⟩
              · obtain ⟨rfl⟩ : m = j := by omega
                have hst2 := HST.out
                rw [show S.drop m = [] from List.drop_eq_nil_of_le (by rw [HM.out]; exact Nat.le_refl _)] at hst2
                have hmu1 := HMU.out
                have hmu3 : mu f2 (Q2.drop (i + 1)) + (i + 1) = c.n := by rw [HMX.out]; omega
                have hds3 : dsOut c (c.n - (i + 1) + 1) f2 (Q2.drop (i + 1)) = distL c := by
                  rw [← HDS.out, HDG.out, show c.n - (i + 1) + 1 = c.n - i by omega]
                  show _ = dsOut c (c.n - i) (dsIn ka f (Q.drop (i + 1)) (edL c ka)).1 (dsIn ka f (Q.drop (i + 1)) (edL c ka)).2
                  rw [HS.out, hst2]; rfl
                have HD3 := Lib.hid hds3
                have HMU3 := Lib.hid hmu3
                obtain ⟨QA, Qc, rfl, _, _, _⟩ := own_form HOW.out
                clear hst2 hds3 how hrow hfr hqa
                go_wp2
                exact ⟨⟨i + 1, f2, Q2, by go_num, hil, HMU3.out, HD3.out, HFR.out, HOW.out, HAP.out, HQ.out, HBD.out⟩, by simp [intOf]; omega⟩
          · have HDR := Lib.hid (show f = distL c by rw [← HDS.out, List.drop_eq_nil_of_le (by omega)]; rfl)
            obtain ⟨QA, Qc, rfl, _, _, _⟩ := own_form HOW.out
            have hin : ¬ ((i : Int) < (Q.length : Int)) := by omega
            go_wp2
            go_ret
            rw [← HDR.out]
            have hl := HFR.out.len
            exact own_up HB.out (by rw [hl]; exact HFR.out.own) HFR.out.bel

end Go.Proofs.Ytpghkdmljanncaa
