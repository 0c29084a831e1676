import Derived.Test.YthfegbhbokhlkaaGreatDoorGaM
import Derived.Test.YthfegbhbokhlkaaGreatDoorReg
import Derived.BigRegion
import Derived.Deep.RegionWith

/- Gg -/
/- Layer 11: Decode of the package. (gen/gg.py) -/
namespace Go.Proofs.YthfegbhbokhlkaaGreatDoor
open Go.ChangeShapes Go.WideShapes Go.ChangeAt Go.RowKit Go.PlainAid
set_option linter.unusedSimpArgs false
set_option linter.unusedVariables false

theorem step_iF {w : World} {ops : Array Oper} {o : Oper} {a : Act} {K : Act → World → Prop} {Q : Exit → Act → World → Prop} {E : Prop} (hg : o.guard = none) (s x : Operand)
    (hop : o.op = Op.call { callee := Callee.builtin Builtin.append, args := #[s, x], argTypes := #[23, 23] })
    {base n c B : Nat} {A : Option Addr} {L : List Int} {i : Int} (hs : a.eval s = .slice A n c) (hO : OwnR iF 1 3 w base A n c L) (hx : a.eval x = .slice (some ⟨B, 0, none⟩) 1 1)
    (hi : w.cell? ⟨B, 0, none⟩ = some (.int .i64 i)) (hb : n ≤ 100000) (hbase : base ≤ w.heap.size)
    (h : ∀ A' c' w', OwnR iF 1 3 w' base A' (n + 1) c' (L ++ [i]) → Below base w w' → w.grownBy w' (Value.slice A n c).ownBlock → K (a.put o.dst (.slice A' (n + 1) c')) w') : if Region.wanted o (yielded ops a.tmps) = true then Oper.wp Tryz.prog o a w K Q else E := by
  obtain ⟨i0, hi0, hz0, hz1, hz2⟩ := info_parts info_iF
  refine _root_.Go.step_append_lies w hg s x 23 hop base 3 i0 (.int .i64 0) 1 8 Tryz.underlying23 hi0 hz0 hz1 hz2 rfl (by decide) (.slice A n c) n (fl iF L) hs hO.own ⟨B, 0, none⟩ 1 1 (iF i) hx rfl (fun j u hu => by
    rcases j with _ | j
    · simp [iF] at hu; subst hu; simpa [Addr.add] using hi
    · simp [iF] at hu) (iF_one i) Nat.zero_lt_one (by unfold maxLen; omega) (by omega) hbase w.heap.size rfl ?_
  intro g cap w' h1 h2 _ _
  rw [← fl_one iF, ← fl_app] at h1
  exact h _ cap w' ⟨by rw [List.length_append, hO.len]; rfl, own_cap h1, fun h => (by cases h), h1⟩ (grown_below h2 (fun k hk => (hO.own.lt k hk).1) hbase) h2
theorem one_box11 {W : World} (x : Int) : (W.alloc (.cells #[.int .i64 x] 3)).cell? ⟨W.heap.size, 0, none⟩ = some (.int .i64 x) := by
  have h := World.alloc_heap_new W (.cells #[.int .i64 x] 3)
  generalize W.alloc (.cells #[.int .i64 x] 3) = W2 at h ⊢
  simp [World.cell?, h]
theorem not_own {α : Type} {F : α → List Value} {z e : Nat} {w : World} {base n c k t : Nat} {A : Option Addr} {L : List α} {cs : Array Value} (h : OwnR F z e w base A n c L) (hk : k < base) : (Value.slice A n c).ownBlock ≠ some k := own_ne h.own hk
set_option maxRecDepth 100000 in
set_option maxHeartbeats 1000000 in
theorem fdec_big (s : ByteArray) (h : 1048576 < s.size) (hs : s.size ≤ 9223372036854775807) (w : World) : Calls Tryz.prog 10 #[.string s] w (FdRet w s) := by
  have hE : fdE s = 8 := by unfold fdE; rw [if_pos h]
  have h' : (1048576 : Int) < (s.size : Int) := by omega
  obtain ⟨Q, hQ⟩ : ∃ Q, FdRet w s = Q := ⟨_, rfl⟩
  have HQ := Lib.hid hQ
  rw [hQ]
  clear hQ
  go_enter Tryz.func10, Tryz.ntmps10
  go_wp2
  have H0 := World.alloc_heap_new w (.cells #[.slice none 0 0, .int .i64 0, .int .i64 0, .int .i64 0, .slice none 0 0, .slice none 0 0, .slice none 0 0, .slice none 0 0] 27)
  refine bodyPost_ret (fd_ret rfl rfl H0) rfl ?_
  rw [← HQ.out]
  exact FdRet.no hE (by decide) (below_al (Below.refl _ _) _)
set_option maxRecDepth 100000 in
set_option maxHeartbeats 1000000 in
theorem fdec_head (s : ByteArray) (h : ¬ 1048576 < s.size) (h2 : ¬ Lib.hasPrefix s.data.toList hdB.data.toList = true) (w : World) : Calls Tryz.prog 10 #[.string s] w (FdRet w s) := by
  have hE : fdE s = 4 := by unfold fdE; rw [if_neg h, if_neg h2]
  have h' : ¬ (1048576 : Int) < (s.size : Int) := by omega
  have hs : s.size ≤ 1048576 := by omega
  have hf : Lib.hasPrefix s.data.toList hdB.data.toList = false := by simpa using h2
  have K := Lib.hid (fun W => show Calls Tryz.prog 28 #[.string s, .string ⟨#[65, 82, 77, 65, 0, 1]⟩] W fun e w' => e = .returned (.bool false) ∧ W = w' from (Tryz.strings_HasPrefix s ⟨#[65, 82, 77, 65, 0, 1]⟩ W).mono fun e w' h => ⟨by rw [h.1]; exact congrArg (fun x => Ending.returned (.bool x)) hf, h.2.symm⟩)
  obtain ⟨Q, hQ⟩ : ∃ Q, FdRet w s = Q := ⟨_, rfl⟩
  have HQ := Lib.hid hQ
  rw [hQ]
  clear hQ hf h2
  go_enter Tryz.func10, Tryz.ntmps10
  go_wp2_with (go_at_call 28; refine (K.out _).mono ?_; rintro e w' ⟨rfl, rfl⟩)
  have H0 := World.alloc_heap_new w (.cells #[.slice none 0 0, .int .i64 0, .int .i64 0, .int .i64 0, .slice none 0 0, .slice none 0 0, .slice none 0 0, .slice none 0 0] 27)
  refine bodyPost_ret (fd_ret rfl rfl H0) rfl ?_
  rw [← HQ.out]
  exact FdRet.no hE (by decide) (below_al (Below.refl _ _) _)
set_option maxRecDepth 100000 in
set_option maxHeartbeats 1000000 in
theorem fdec_pool (s : ByteArray) (h : ¬ 1048576 < s.size) (h2 : Lib.hasPrefix s.data.toList hdB.data.toList = true) (h3 : ¬ deE s 6 = 0) (w : World) : Calls Tryz.prog 10 #[.string s] w (FdRet w s) := by
  have hE : fdE s = deE s 6 := by unfold fdE; rw [if_neg h, if_pos h2, if_neg h3]
  have h' : ¬ (1048576 : Int) < (s.size : Int) := by omega
  have hs : s.size ≤ 1048576 := by omega
  have K := Lib.hid (fun W => show Calls Tryz.prog 28 #[.string s, .string ⟨#[65, 82, 77, 65, 0, 1]⟩] W fun e w' => e = .returned (.bool true) ∧ W = w' from (Tryz.strings_HasPrefix s ⟨#[65, 82, 77, 65, 0, 1]⟩ W).mono fun e w' h => ⟨by rw [h.1]; exact congrArg (fun x => Ending.returned (.bool x)) h2, h.2.symm⟩)
  obtain ⟨Q, hQ⟩ : ∃ Q, FdRet w s = Q := ⟨_, rfl⟩
  have HQ := Lib.hid hQ
  rw [hQ]
  clear hQ h2
  go_enter Tryz.func10, Tryz.ntmps10
  go_wp2_with (first | (go_at_call 28; refine (K.out _).mono ?_; rintro e w' ⟨rfl, rfl⟩) | (go_at_call 29; refine (dec_all s 6 (by omega) _).mono ?_; rintro e w1 ⟨A, n, c, rfl, hl, hc, hp, hb1⟩; have H0 := first_box hb1; have HB := below_on (w := w) (below_al (Below.refl _ _) _) hb1; obtain ⟨⟨z0, z1, z2, z3, z4, z5, z6, z7⟩, fz, ylt⟩ := eight_cellsF H0; have HH := Lib.hid H0; clear hb1 hp hl hc H0))
  refine bodyPost_ret (fd_ret rfl rfl (set_eightF HH.out)) rfl ?_
  rw [← HQ.out]
  exact FdRet.no hE h3 (eight_below HB (Nat.le_refl _))

set_option maxRecDepth 100000 in
set_option maxHeartbeats 4000000 in
theorem fdec_main (s : ByteArray) (h : ¬ 1048576 < s.size) (h2 : Lib.hasPrefix s.data.toList hdB.data.toList = true) (h3 : deE s 6 = 0) (w : World) : Calls Tryz.prog 10 #[.string s] w (FdRet w s) := by
  have hE : fdE s = bdE s (deN s 6) := by unfold fdE; rw [if_neg h, if_pos h2, if_pos h3]
  have HE := Lib.hid hE
  have h' : ¬ (1048576 : Int) < (s.size : Int) := by omega
  have hs : s.size ≤ 1048576 := by omega
  have hdp := de_pos h3
  have HDP := Lib.hid hdp
  have K := Lib.hid (fun W => show Calls Tryz.prog 28 #[.string s, .string ⟨#[65, 82, 77, 65, 0, 1]⟩] W fun e w' => e = .returned (.bool true) ∧ W = w' from (Tryz.strings_HasPrefix s ⟨#[65, 82, 77, 65, 0, 1]⟩ W).mono fun e w' h => ⟨by rw [h.1]; exact congrArg (fun x => Ending.returned (.bool x)) h2, h.2.symm⟩)
  obtain ⟨Q, hQ⟩ : ∃ Q, FdRet w s = Q := ⟨_, rfl⟩
  have HQ := Lib.hid hQ
  rw [hQ]
  clear hQ h2 hE
  go_enter Tryz.func10, Tryz.ntmps10
  go_upto_region 9 with (first | (go_at_call 28; refine (K.out _).mono ?_; rintro e w' ⟨rfl, rfl⟩) | (go_at_call 29; refine (dec_all s 6 (by omega) _).mono ?_; rintro e w2 ⟨pA, pn, pc, rfl, hl, hc, hp, hb1⟩; have H0 := first_box hb1; have HB0 := below_on (w := w) (below_al (Below.refl _ _) _) hb1; clear hb1))
  generalize hq : deN s 6 = q at HDP HE ⊢
  have HQ0 := Lib.hid hq
  have HL0 := Lib.hid hl
  have HP0 := Lib.hid hp
  have HH0 := Lib.hid H0
  have HBB := Lib.hid HB0
  have hRes : w.heap.size < w2.heap.size := lt_heap H0
  have HR0 := Lib.hid (show RdB (w2.alloc (.cells #[.string s, .int .i64 q, .int .i64 0] 66)) w2.heap.size s q 0 from World.alloc_heap_new w2 _)
  have HB := Lib.hid (below_al (Below.refl _ w2) (.cells #[.string s, .int .i64 q, .int .i64 0] 66))
  clear hq hl hp H0 HB0 hdp
  generalize w2.alloc (.cells #[.string s, .int .i64 q, .int .i64 0] 66) = W3 at HR0 HB ⊢
  obtain ⟨b, hb⟩ : ∃ b, w2.heap.size = b := ⟨_, rfl⟩
  have hbg : w2.heap.size ≤ b := by omega
  have hbr : b ≠ w.heap.size := by omega
  rw [hb] at HR0 ⊢
  have HBG := Lib.hid hb
  clear hb
  go_upto_region 10 with (first
    | (go_at_call 30; refine (number_any b s p2 e2 2 ok2 (by omega) HN2.out.rng _ HR2.out).mono ?_; rintro r w33 ⟨v3, p3, e3, rfl, hv3, hr, ho, hn3⟩; have HV3 := Lib.hid hv3; have HN3 := Lib.hid hn3; have HR3 := Lib.hid hr; replace HB := Lib.hid (HB.out.trans (ho.below HB.out.size hbg)); clear hr ho hv3 hn3)
    | (go_at_call 30; refine (number_any b s p1 e1 2 ok2 (by omega) HN1.out.rng _ HR1.out).mono ?_; rintro r w32 ⟨v2, p2, e2, rfl, hv2, hr, ho, hn2⟩; have HV2 := Lib.hid hv2; have HN2 := Lib.hid hn2; have HR2 := Lib.hid hr; replace HB := Lib.hid (HB.out.trans (ho.below HB.out.size hbg)); clear hr ho hv2 hn2)
    | (go_at_call 30; refine (number_any b s q 0 2 ok2 (by omega) HDP.out _ HR0.out).mono ?_; rintro r w31 ⟨v1, p1, e1, rfl, hv1, hr, ho, hn1⟩; have HV1 := Lib.hid hv1; have HN1 := Lib.hid hn1; have HR1 := Lib.hid hr; replace HB := Lib.hid (HB.out.trans (ho.below HB.out.size hbg)); clear hr ho hv1 hn1))
  have HT3 := Lib.hid (three_nums HDP.out HN1.out HN2.out HN3.out (by simpa using HV1.out) HV2.out HV3.out)
  have HX := Lib.hid (World.alloc_heap_new w33 (.cells #[.slice pA pn pc, .int .i64 v1, .int .i64 v2, .int .i64 v3, .slice none 0 0, .slice none 0 0, .slice none 0 0, .slice none 0 0] 27))
  have HR4 := Lib.hid (HR3.out.below (below_al (Below.refl _ w33) (.cells #[.slice pA pn pc, .int .i64 v1, .int .i64 v2, .int .i64 v3, .slice none 0 0, .slice none 0 0, .slice none 0 0, .slice none 0 0] 27)))
  replace HB := Lib.hid (HB.out.trans ((below_al (Below.refl _ w33) (.cells #[.slice pA pn pc, .int .i64 v1, .int .i64 v2, .int .i64 v3, .slice none 0 0, .slice none 0 0, .slice none 0 0, .slice none 0 0] 27)).mono HB.out.size))
  have hFb : b < w33.heap.size := lt_heap HR3.out
  have hFb2 : w2.heap.size ≤ w33.heap.size := by omega
  clear HR1 HR2 HR3 HR0 HV1 HV2 HV3
  generalize w33.alloc (.cells #[.slice pA pn pc, .int .i64 v1, .int .i64 v2, .int .i64 v3, .slice none 0 0, .slice none 0 0, .slice none 0 0, .slice none 0 0] 27) = W4 at HX HR4 HB ⊢
  generalize w33.heap.size = Fb at HX hFb hFb2 ⊢
  have hp3r := HN3.out.rng
  go_upto_region 11 with (go_at_call 31; refine (length_any b s p3 e3 8 (by omega) (by omega) HN3.out.rng _ HR4.out).mono ?_; rintro r w5 ⟨n4, p4, e4, rfl, hv4, hr4, ho4, hn4⟩; have HV4 := Lib.hid hv4; have hvb : 0 ≤ n4 ∧ n4 ≤ 65535 := (by rw [hv4]; have := uns2_bd s p3; split <;> omega); have HN4 := Lib.hid hn4; have HR5 := Lib.hid hr4; replace HX := Lib.hid (ho4.keep HX.out (by omega)); replace HB := Lib.hid (HB.out.trans (ho4.below HB.out.size hbg)); clear hr4 ho4 hv4 hn4)
  obtain ⟨m, rfl⟩ : ∃ m : Nat, n4 = (m : Int) := ⟨n4.toNat, by omega⟩
  have hFl : Fb < w5.heap.size := lt_heap HX.out
  obtain ⟨B0, hB0⟩ : ∃ B0, w5.heap.size = B0 := ⟨_, rfl⟩
  have hst : IsI B0 b w2 w5 Fb s (p3 + 2) e4 (.slice pA pn pc) v1 v2 v3 m 0 none 0 [] p4 e4 := by
    refine ⟨Nat.zero_le _, OwnR.nil _ _ _ _ _, HR5.out, HX.out, HB.out, by omega, HN4.out.rng, fun h => h, fun h => ⟨rfl, ?_⟩, fun _ h0 => ⟨HN4.out.pos h0, rfl⟩⟩
    have := HV4.out
    rw [if_neg h] at this
    omega
  have HST := Lib.hid hst
  clear hst HR4 HR5 HX HB
  rw [hB0] at hFl
  clear hB0
  go_loopw [9] (fun n wr => ∃ (k : Nat) (A : Option Addr) (c : Nat) (L : List Int) (pk ek : Int), n = .int .i64 ((m : Int) - k) ∧ IsI B0 b w2 wr Fb s (p3 + 2) e4 (.slice pA pn pc) v1 v2 v3 m k A c L pk ek) (fun n _ => (intOf n).toNat)
  case atStart => exact ⟨0, none, 0, [], p4, e4, by simp, HST.out⟩
  case round =>
    obtain ⟨k, A, c, L, pk, ek, rfl, I⟩ := hrel
    have hle := I.le
    have II := Lib.hid I
    obtain ⟨c0, c1, c2, q1, q2, hlt'⟩ := I.rd.cells
    obtain ⟨⟨x0, x1, x2, x3, x4, x5, x6, x7⟩, xf, xlt⟩ := eight_cellsF I.box
    clear I
    by_cases hkm : k < m
    · by_cases hek : ek = 0
      · subst hek
        have hg : (0 : Int) < (m : Int) - k := by omega
        go_upto_region 13 with fail
        refine regN_start (N := 6) (S := (fun w' => w'.cell? ⟨Fb, 4, none⟩ = some (.slice A k c))) (by kernel_rfl) ?_
        change wpAnyN _ _ _ _ _ _ _ #[false, false, false, false, false, false, false] _ (World.drew _)
        have hS0 := x4
        refine regN_take (i := 0) (d := (some 46)) (v := ?v13x1) (l2 := #[true, false, false, false, false, false, false]) rfl rfl rfl (by kernel_rfl) (by kernel_rfl) (by kernel_rfl) (by kernel_rfl) (fun _ _ _ h => h) (by rfl) ?hv13x1 hS0 ?h13x1
        case hv13x1 => intro u hSu; clear hSu; go_simp; (try with_reducible rfl)
        (try simp only [Act.put, List.setIfInBounds_toArray, List.set_cons_zero, List.set_cons_succ])
        refine regN_take (i := 1) (d := (some 47)) (v := ?v13x2) (l2 := #[true, true, false, false, false, false, false]) rfl rfl rfl (by kernel_rfl) (by kernel_rfl) (by kernel_rfl) (by kernel_rfl) (fun _ _ _ h => h) (by rfl) ?hv13x2 hS0 ?h13x2
        case hv13x2 => intro u hSu; (try dsimp only at hSu); (try go_split_ands); go_simp; (try with_reducible rfl)
        (try simp only [Act.put, List.setIfInBounds_toArray, List.set_cons_zero, List.set_cons_succ])
        refine regN_ready (rs := [2]) (by kernel_rfl) (by simp) ?_
        refine (AllN.cons (i := 2) (l2 := #[true, true, true, false, false, false, false]) rfl rfl (fun K hK => ?_) AllN.nil)
        go_simp
        go_at_call 30
        refine (number_any b s pk 0 2 ok2 (by omega) II.out.rng _ (show RdB wr.drew b s pk 0 from II.out.rd)).mono ?_
        rintro r w6 ⟨v6, p6, e6, rfl, hv6, hr6, ho6, hn6⟩
        have HV6 := Lib.hid hv6
        have HN6 := Lib.hid hn6
        clear hv6 hn6
        have hx6 := ho6.keep (show wr.drew.heap[Fb]? = _ from II.out.box) (by omega)
        have hs6 : w6.cell? ⟨Fb, 4, none⟩ = some (.slice A k c) := (eight_cellsF hx6).1.2.2.2.2.1
        have hbl6 : Below w2.heap.size w2 w6 := (show Below w2.heap.size w2 wr.drew from II.out.bel.drew).trans (ho6.below (by have := II.out.bel.size; simpa using this) hbg)
        have hz6 : B0 ≤ w6.heap.size := Nat.le_trans II.out.big (by simpa using ho6.size)
        go_simp
        have hS1 : ((fun w' => w'.cell? ⟨Fb, 4, none⟩ = some (.slice A k c)) : World → Prop) _ := hs6
        refine hK _ _ (fun _ => hS1) ?_
        clear hK K
        (try simp only [Act.put, List.setIfInBounds_toArray, List.set_cons_zero, List.set_cons_succ])
        refine regN_ready (rs := [3]) (by kernel_rfl) (by simp) ?_
        refine (AllN.cons (i := 3) (l2 := #[true, true, true, true, false, false, false]) rfl rfl (fun K hK => ?_) AllN.nil)
        go_simp
        have hS2 : ((fun w' => w'.cell? ⟨Fb, 4, none⟩ = some (.slice A k c)) : World → Prop) _ := ((below_al (Below.refl _ w6) (.cells #[.int .i64 v6] 3)).cell (p := ⟨Fb, 4, none⟩) (lt_heap hx6)).trans hs6
        refine hK _ _ (fun _ => hS2) ?_
        clear hK K
        (try simp only [Act.put, List.setIfInBounds_toArray, List.set_cons_zero, List.set_cons_succ])
        refine regN_ready (rs := [4]) (by kernel_rfl) (by simp) ?_
        refine (AllN.cons (i := 4) (l2 := #[true, true, true, true, true, false, false]) rfl rfl (fun K hK => ?_) AllN.nil)
        refine step_iF (by rfl) _ _ (by rfl) (by rfl) (((II.out.own.below (Below.refl wr.heap.size wr).drew).off ho6 (by omega)).below (below_al (Below.refl _ w6) (.cells #[.int .i64 v6] 3))) (by rfl) (one_box11 v6) (by omega) (by simp; omega) ?_
        intro A7 c7 w7 hO7 hb7 hg7
        have hx7 := (hb7.block Fb hFl).trans (laid_old hx6)
        have hr7 := (hb7.block b (by omega)).trans (laid_old hr6)
        have hs7 : w7.cell? ⟨Fb, 4, none⟩ = some (.slice A k c) := (eight_cellsF hx7).1.2.2.2.2.1
        have hbl7 := (hbl6.alloc hbl6.size (.cells #[.int .i64 v6] 3)).trans (hb7.mono (by omega))
        have xf7 := (eight_cellsF hx7).2.1 4
        have hz7 := hb7.size
        simp at hz7
        have hS3 : ((fun w' => w'.cell? ⟨Fb, 4, none⟩ = some (.slice A k c)) : World → Prop) _ := hs7
        refine hK _ _ (fun _ => hS3) ?_
        clear hK K
        (try simp only [Act.put, List.setIfInBounds_toArray, List.set_cons_zero, List.set_cons_succ])
        refine regN_take (i := 5) (d := (some 51)) (v := ?v13x3) (l2 := #[true, true, true, true, true, true, false]) rfl rfl rfl (by kernel_rfl) (by kernel_rfl) (by kernel_rfl) (by kernel_rfl) (fun _ _ _ h => h) (by rfl) ?hv13x3 hS3 ?h13x3
        case hv13x3 => intro u hSu; clear hSu; go_simp; (try with_reducible rfl)
        (try simp only [Act.put, List.setIfInBounds_toArray, List.set_cons_zero, List.set_cons_succ])
        refine regN_ready (rs := [6]) (by kernel_rfl) (by simp) ?_
        refine (AllN.cons (i := 6) (l2 := #[true, true, true, true, true, true, true]) rfl rfl (fun K hK => ?_) AllN.nil)
        go_simp
        refine hK _ _ (fun h => absurd rfl h) ?_
        clear hK K
        (try simp only [Act.put, List.setIfInBounds_toArray, List.set_cons_zero, List.set_cons_succ])
        refine regN_done (by kernel_rfl) ?_ _
        have HH7 := Lib.hid hx7
        have HHR7 := Lib.hid hr7
        have HO7 := Lib.hid hO7
        have HBL7 := Lib.hid hbl7
        clear hx7 hr7 hO7 hbl7 hb7 hg7 hx6 hbl6 ho6 hr6
        go_wp2
        refine ⟨?_, ?_⟩
        · exact ⟨k + 1, A7, c7, _, p6, e6, by congr 1; omega, IsI.step II.out hkm (HO7.out.off ((Off.refl Fb w7).put 4 _) hFl) (((Off.refl Fb w7).put 4 _).keep HHR7.out (by omega)) (heap_setCell_same w7 Fb 4 _ _ _ HH7.out) (HBL7.out.setCell (p := ⟨Fb, 4, none⟩) hFb2 _) (by simp; omega) HN6.out (by simpa using HV6.out)⟩
        · simp [intOf]; omega
      · have hg : (0 : Int) < (m : Int) - k := by omega
        have hex := Lib.hid (Or.inr hek : k = m ∨ ¬ ek = 0)
        obtain ⟨hIs, hIsl⟩ := II.out.done hex.out HN4.out HV4.out
        have HI1 := Lib.hid hIs
        have HI2 := Lib.hid hIsl
        have HOi := Lib.hid II.out.own
        have hbig := II.out.big
        clear hIs hIsl
        go_upto_region 15 with (go_at_call 32; refine (members_any b s pk ek (by omega) II.out.rng _ II.out.rd).mono ?_; rintro r w8 ⟨mA, mj, mc, Lm, p5, e5, rfl, hO8, hA8, hr8, ho8, hn8, hl8⟩; have HOm := Lib.hid hO8; have HAm := Lib.hid hA8; have HRm := Lib.hid hr8; have HNm := Lib.hid hn8; have HLm := Lib.hid hl8; have hX8 := ho8.keep II.out.box (by omega); obtain ⟨⟨x0, x1, x2, x3, x4, x5, x6, x7⟩, xf, xlt⟩ := eight_cellsF hX8; have HXm := Lib.hid hX8; have HBm := Lib.hid (II.out.bel.trans (ho8.below II.out.bel.size hbg)); have HFm := Lib.hid ho8; have hszm := ho8.size; clear hO8 hr8 hn8 hl8 hX8 ho8 hA8)
        replace HOi := Lib.hid (HOi.out.off HFm.out (by omega))
        have o9 : Off Fb w8 (w8.setCell ⟨Fb, 5, none⟩ (.slice mA mj mc)) := (Off.refl Fb w8).put 5 (.slice mA mj mc)
        have hX9 : (w8.setCell ⟨Fb, 5, none⟩ (.slice mA mj mc)).heap[Fb]? = some (.cells #[.slice pA pn pc, .int .i64 v1, .int .i64 v2, .int .i64 v3, .slice A k c, .slice mA mj mc, .slice none 0 0, .slice none 0 0] 27) := heap_setCell_same w8 Fb 5 _ _ _ HXm.out
        replace HRm := Lib.hid (o9.keep HRm.out (by omega))
        replace HBm := Lib.hid (HBm.out.setCell (p := ⟨Fb, 5, none⟩) hFb2 (.slice mA mj mc))
        replace HOi := Lib.hid (HOi.out.off o9 (by omega))
        replace HOm := Lib.hid (HOm.out.off o9 (by omega))
        replace HAm := Lib.hid (fun y hy => (HAm.out y hy).off o9 (by omega))
        have hsz9 : w8.heap.size ≤ (w8.setCell ⟨Fb, 5, none⟩ (.slice mA mj mc)).heap.size := o9.size
        clear o9
        replace HXm := Lib.hid hX9
        clear hX9
        generalize w8.setCell ⟨Fb, 5, none⟩ (.slice mA mj mc) = W9 at HRm HBm HXm HOi HOm HAm hsz9 ⊢
        have hszm9 := hsz9
        clear hsz9
        go_upto_region 16 with (go_at_call 32; refine (members_any b s p5 e5 (by omega) HNm.out.rng _ HRm.out).mono ?_; rintro r w10 ⟨gA, gj, gc, Lg, p6, e6, rfl, hO8, hA8, hr8, ho8, hn8, hl8⟩; have HOg := Lib.hid hO8; have HAg := Lib.hid hA8; have HRg := Lib.hid hr8; have HNg := Lib.hid hn8; have HLg := Lib.hid hl8; have hX8 := ho8.keep HXm.out (by omega); obtain ⟨⟨x0, x1, x2, x3, x4, x5, x6, x7⟩, xf, xlt⟩ := eight_cellsF hX8; have HXg := Lib.hid hX8; have HBg := Lib.hid (HBm.out.trans (ho8.below HBm.out.size hbg)); have HFg := Lib.hid ho8; have hszg := ho8.size; clear hO8 hr8 hn8 hl8 hX8 ho8 hA8)
        replace HOi := Lib.hid (HOi.out.off HFg.out (by omega))
        replace HOm := Lib.hid (HOm.out.off HFg.out (by omega))
        replace HAm := Lib.hid (fun y hy => (HAm.out y hy).off HFg.out (by omega))
        have o9 : Off Fb w10 (w10.setCell ⟨Fb, 6, none⟩ (.slice gA gj gc)) := (Off.refl Fb w10).put 6 (.slice gA gj gc)
        have hX9 : (w10.setCell ⟨Fb, 6, none⟩ (.slice gA gj gc)).heap[Fb]? = some (.cells #[.slice pA pn pc, .int .i64 v1, .int .i64 v2, .int .i64 v3, .slice A k c, .slice mA mj mc, .slice gA gj gc, .slice none 0 0] 27) := heap_setCell_same w10 Fb 6 _ _ _ HXg.out
        replace HRg := Lib.hid (o9.keep HRg.out (by omega))
        replace HBg := Lib.hid (HBg.out.setCell (p := ⟨Fb, 6, none⟩) hFb2 (.slice gA gj gc))
        replace HOi := Lib.hid (HOi.out.off o9 (by omega))
        replace HOm := Lib.hid (HOm.out.off o9 (by omega))
        replace HAm := Lib.hid (fun y hy => (HAm.out y hy).off o9 (by omega))
        replace HOg := Lib.hid (HOg.out.off o9 (by omega))
        replace HAg := Lib.hid (fun y hy => (HAg.out y hy).off o9 (by omega))
        have hsz9 : w10.heap.size ≤ (w10.setCell ⟨Fb, 6, none⟩ (.slice gA gj gc)).heap.size := o9.size
        clear o9
        replace HXg := Lib.hid hX9
        clear hX9
        generalize w10.setCell ⟨Fb, 6, none⟩ (.slice gA gj gc) = W11 at HRg HBg HXg HOi HOm HAm HOg HAg hsz9 ⊢
        have hszg9 := hsz9
        clear hsz9
        go_upto_region 17 with (go_at_call 33; refine (attributes_any b s p6 e6 (by omega) HNg.out.rng _ HRg.out).mono ?_; rintro r w12 ⟨aA, aj, ac, La, p7, e7, rfl, hO8, hr8, ho8, hn8, hl8⟩; have HOa := Lib.hid hO8; have HRa := Lib.hid hr8; have HNa := Lib.hid hn8; have HLa := Lib.hid hl8; have hX8 := ho8.keep HXg.out (by omega); obtain ⟨⟨x0, x1, x2, x3, x4, x5, x6, x7⟩, xf, xlt⟩ := eight_cellsF hX8; have HXa := Lib.hid hX8; have HBa := Lib.hid (HBg.out.trans (ho8.below HBg.out.size hbg)); have HFa := Lib.hid ho8; have hsza := ho8.size; clear hO8 hr8 hn8 hl8 hX8 ho8)
        replace HOi := Lib.hid (HOi.out.off HFa.out (by omega))
        replace HOm := Lib.hid (HOm.out.off HFa.out (by omega))
        replace HAm := Lib.hid (fun y hy => (HAm.out y hy).off HFa.out (by omega))
        replace HOg := Lib.hid (HOg.out.off HFa.out (by omega))
        replace HAg := Lib.hid (fun y hy => (HAg.out y hy).off HFa.out (by omega))
        have o9 : Off Fb w12 (w12.setCell ⟨Fb, 7, none⟩ (.slice aA aj ac)) := (Off.refl Fb w12).put 7 (.slice aA aj ac)
        have hX9 : (w12.setCell ⟨Fb, 7, none⟩ (.slice aA aj ac)).heap[Fb]? = some (.cells #[.slice pA pn pc, .int .i64 v1, .int .i64 v2, .int .i64 v3, .slice A k c, .slice mA mj mc, .slice gA gj gc, .slice aA aj ac] 27) := heap_setCell_same w12 Fb 7 _ _ _ HXa.out
        replace HRa := Lib.hid (o9.keep HRa.out (by omega))
        replace HBa := Lib.hid (HBa.out.setCell (p := ⟨Fb, 7, none⟩) hFb2 (.slice aA aj ac))
        replace HOi := Lib.hid (HOi.out.off o9 (by omega))
        replace HOm := Lib.hid (HOm.out.off o9 (by omega))
        replace HAm := Lib.hid (fun y hy => (HAm.out y hy).off o9 (by omega))
        replace HOg := Lib.hid (HOg.out.off o9 (by omega))
        replace HAg := Lib.hid (fun y hy => (HAg.out y hy).off o9 (by omega))
        replace HOa := Lib.hid (HOa.out.off o9 (by omega))
        have hsz9 : w12.heap.size ≤ (w12.setCell ⟨Fb, 7, none⟩ (.slice aA aj ac)).heap.size := o9.size
        clear o9
        replace HXa := Lib.hid hX9
        clear hX9
        generalize w12.setCell ⟨Fb, 7, none⟩ (.slice aA aj ac) = W13 at HRa HBa HXa HOi HOm HAm HOg HAg HOa hsz9 ⊢
        have hsza9 := hsz9
        clear hsz9
        have HFIN := Lib.hid (bd_fin HT3.out HI1.out HI2.out HNm.out HLm.out HNg.out HLg.out HNa.out HLa.out)
        have HZ := Lib.hid ((HBa.out.block w.heap.size hRes).trans HH0.out)
        obtain ⟨⟨x0, x1, x2, x3, x4, x5, x6, x7⟩, xf, xlt⟩ := eight_cellsF HXa.out
        obtain ⟨⟨z0, z1, z2, z3, z4, z5, z6, z7⟩, zf, zlt⟩ := eight_cellsF HZ.out
        obtain ⟨c0, c1, c2, q1, q2, hlt2⟩ := (show RdB W13 b s p7 e7 from HRa.out).cells
        have hra := HNa.out.rng
        by_cases h7 : e7 = 0
        · subst h7
          by_cases h8 : p7 = (s.size : Int)
          · have hE0 : fdE s = 0 := by rw [HE.out, HFIN.out.1, if_pos rfl, if_pos h8]
            have HE0 := Lib.hid hE0
            have hF := HFIN.out.2 rfl
            have HFV := Lib.hid hF
            clear hF hE0
            go_upto_region 21 with fail
            rename_i kk ak
            have AK := Lib.hid ak
            clear ak
            go_wp2
            have HZZ := Lib.hid (set_eightF (a := .slice pA pn pc) (b := .int .i64 v1) (c := .int .i64 v2) (d := .int .i64 v3) (e := .slice A k c) (f := .slice mA mj mc) (g := .slice gA gj gc) (h := .slice aA aj ac) HZ.out)
            have HBZ := Lib.hid (eight_below (B := w.heap.size) (a := .slice pA pn pc) (b := .int .i64 v1) (c := .int .i64 v2) (d := .int .i64 v3) (e := .slice A k c) (f := .slice mA mj mc) (g := .slice gA gj gc) (h := .slice aA aj ac) (below_on HBB.out HBa.out) (Nat.le_refl _))
            have HOF := Lib.hid (eight_off (B := w.heap.size) (W := W13) (a := .slice pA pn pc) (b := .int .i64 v1) (c := .int .i64 v2) (d := .int .i64 v3) (e := .slice A k c) (f := .slice mA mj mc) (g := .slice gA gj gc) (h := .slice aA aj ac))
            generalize ((((((((W13.setCell ⟨w.heap.size, 0, none⟩ (.slice pA pn pc)).setCell ⟨w.heap.size, 1, none⟩ (.int .i64 v1)).setCell ⟨w.heap.size, 2, none⟩ (.int .i64 v2)).setCell ⟨w.heap.size, 3, none⟩ (.int .i64 v3)).setCell ⟨w.heap.size, 4, none⟩ (.slice A k c)).setCell ⟨w.heap.size, 5, none⟩ (.slice mA mj mc)).setCell ⟨w.heap.size, 6, none⟩ (.slice gA gj gc)).setCell ⟨w.heap.size, 7, none⟩ (.slice aA aj ac)) = W15 at HZZ HBZ HOF ⊢
            refine AK.out _ _ (wp_ret ?_)
            refine bodyPost_ret (fd_ret rfl rfl HZZ.out) rfl ?_
            rw [← HQ.out]
            refine ⟨⟨deL s 6, pA, pn, pc, v1, v2, v3, L, A, k, c, Lm, mA, mj, mc, Lg, gA, gj, gc, La, aA, aj, ac⟩, by rw [HE0.out]; rfl, ?_, fin_ok HL0.out HP0.out HBa.out HZ.out HOF.out HOi.out (by omega) HOm.out (by omega) HAm.out (by omega) HOg.out (by omega) HAg.out (by omega) HOa.out (by omega), HBZ.out⟩
            obtain ⟨t1, t2, t3, t4, t5, t6, t7⟩ := HFV.out
            unfold fdR fdV Fi.v
            rw [if_pos HE0.out, HQ0.out, t1, t2, t3, t4, t7]
            simp only [t5, t6]
          · have hE0 : fdE s = 10 := by rw [HE.out, HFIN.out.1, if_pos rfl, if_neg h8]
            have HE0 := Lib.hid hE0
            clear hE0
            go_wp2_with (go_at_call 34; refine (fail_any b s p7 0 10 _ HRa.out).mono ?_; rintro r w14 ⟨rfl, hr, ho⟩; have hr14 : RdB w14 b s p7 10 := (by simpa using hr); obtain ⟨c0, c1, c2, q1, q2, hlt3⟩ := hr14.cells; have hz14 := ho.keep HZ.out (by omega); obtain ⟨⟨z0, z1, z2, z3, z4, z5, z6, z7⟩, zf, zlt⟩ := eight_cellsF hz14; have HZ14 := Lib.hid hz14; have HR14 := Lib.hid hr14; clear x0 x1 x2 x3 x4 x5 x6 x7 xf xlt; have HB14 := Lib.hid (HBa.out.trans (ho.below HBa.out.size hbg)); clear hr hr14 ho hz14)
            refine regN_start (N := 4) (S := (fun w' => w'.cell? ⟨b, 2, none⟩ = some (.int .i64 10))) (by kernel_rfl) ?_
            change wpAnyN _ _ _ _ _ _ _ #[false, false, false, false, false] _ (World.drew _)
            have hS0 := c2
            refine regN_take (i := 0) (d := (some 72)) (v := ?v20bx1) (l2 := #[true, false, false, false, false]) rfl rfl rfl (by kernel_rfl) (by kernel_rfl) (by kernel_rfl) (by kernel_rfl) (fun _ _ _ h => h) (by rfl) ?hv20bx1 hS0 ?h20bx1
            case hv20bx1 => intro u hSu; clear hSu; go_simp; (try with_reducible rfl)
            (try simp only [Act.put, List.setIfInBounds_toArray, List.set_cons_zero, List.set_cons_succ])
            refine regN_take (i := 1) (d := (some 73)) (v := ?v20bx2) (l2 := #[true, true, false, false, false]) rfl rfl rfl (by kernel_rfl) (by kernel_rfl) (by kernel_rfl) (by kernel_rfl) (fun _ _ _ h => h) (by rfl) ?hv20bx2 hS0 ?h20bx2
            case hv20bx2 => intro u hSu; clear hSu; go_simp; (try with_reducible rfl)
            (try simp only [Act.put, List.setIfInBounds_toArray, List.set_cons_zero, List.set_cons_succ])
            refine regN_take (i := 2) (d := (some 74)) (v := ?v20bx3) (l2 := #[true, true, true, false, false]) rfl rfl rfl (by kernel_rfl) (by kernel_rfl) (by kernel_rfl) (by kernel_rfl) (fun _ _ _ h => h) (by rfl) ?hv20bx3 hS0 ?h20bx3
            case hv20bx3 => intro u hSu; (try dsimp only at hSu); (try go_split_ands); go_simp; (try with_reducible rfl)
            (try simp only [Act.put, List.setIfInBounds_toArray, List.set_cons_zero, List.set_cons_succ])
            refine regN_ready (rs := [3]) (by kernel_rfl) (by simp) ?_
            refine (AllN.cons (i := 3) (l2 := #[true, true, true, true, false]) rfl rfl (fun K hK => ?_) AllN.nil)
            go_simp
            have hS1 : ((fun w' => w'.cell? ⟨b, 2, none⟩ = some (.int .i64 10)) : World → Prop) _ := (fun (W : World) (h : W.cell? ⟨b, 2, none⟩ = some (.int .i64 10)) => (show W.drew.cell? ⟨b, 2, none⟩ = some (.int .i64 10) from h)) _ (RdB.cells (show RdB _ b s p7 10 from (eight_off (B := w.heap.size) (a := .slice none 0 0) (b := .int .i64 0) (c := .int .i64 0) (d := .int .i64 0) (e := .slice none 0 0) (f := .slice none 0 0) (g := .slice none 0 0) (h := .slice none 0 0)).keep (show w14.heap[b]? = _ from HR14.out) hbr)).2.2.1
            refine hK _ _ (fun _ => hS1) ?_
            clear hK K
            (try simp only [Act.put, List.setIfInBounds_toArray, List.set_cons_zero, List.set_cons_succ])
            refine regN_ready (rs := [4]) (by kernel_rfl) (by simp) ?_
            refine (AllN.cons (i := 4) (l2 := #[true, true, true, true, true]) rfl rfl (fun K hK => ?_) AllN.nil)
            go_simp
            refine hK _ _ (fun h => absurd rfl h) ?_
            clear hK K
            (try simp only [Act.put, List.setIfInBounds_toArray, List.set_cons_zero, List.set_cons_succ])
            refine regN_done (by kernel_rfl) ?_ _
            have HZZ := Lib.hid (set_eightF (a := .slice none 0 0) (b := .int .i64 0) (c := .int .i64 0) (d := .int .i64 0) (e := .slice none 0 0) (f := .slice none 0 0) (g := .slice none 0 0) (h := .slice none 0 0) HZ14.out)
            have HBZ := Lib.hid (eight_below (B := w.heap.size) (a := .slice none 0 0) (b := .int .i64 0) (c := .int .i64 0) (d := .int .i64 0) (e := .slice none 0 0) (f := .slice none 0 0) (g := .slice none 0 0) (h := .slice none 0 0) (below_on HBB.out HB14.out) (Nat.le_refl _))
            generalize ((((((((w14.setCell ⟨w.heap.size, 0, none⟩ (.slice none 0 0)).setCell ⟨w.heap.size, 1, none⟩ (.int .i64 0)).setCell ⟨w.heap.size, 2, none⟩ (.int .i64 0)).setCell ⟨w.heap.size, 3, none⟩ (.int .i64 0)).setCell ⟨w.heap.size, 4, none⟩ (.slice none 0 0)).setCell ⟨w.heap.size, 5, none⟩ (.slice none 0 0)).setCell ⟨w.heap.size, 6, none⟩ (.slice none 0 0)).setCell ⟨w.heap.size, 7, none⟩ (.slice none 0 0)) = W15 at HZZ HBZ ⊢
            rename_i kk ak
            refine ak _ _ (wp_ret ?_)
            refine bodyPost_ret (fd_ret rfl rfl (show W15.drew.heap[w.heap.size]? = _ from HZZ.out)) rfl ?_
            rw [← HQ.out]
            exact FdRet.no HE0.out (by decide) HBZ.out.drew
        · have hE0 : fdE s = e7 := by rw [HE.out, HFIN.out.1, if_neg h7]
          have HE0 := Lib.hid hE0
          clear hE0
          go_wp2
          clear x0 x1 x2 x3 x4 x5 x6 x7 xf xlt c0 c1
          refine regN_start (N := 4) (S := (fun w' => w'.cell? ⟨b, 2, none⟩ = some (.int .i64 e7))) (by kernel_rfl) ?_
          change wpAnyN _ _ _ _ _ _ _ #[false, false, false, false, false] _ (World.drew _)
          have hS0 := c2
          refine regN_take (i := 0) (d := (some 72)) (v := ?v20cx1) (l2 := #[true, false, false, false, false]) rfl rfl rfl (by kernel_rfl) (by kernel_rfl) (by kernel_rfl) (by kernel_rfl) (fun _ _ _ h => h) (by rfl) ?hv20cx1 hS0 ?h20cx1
          case hv20cx1 => intro u hSu; clear hSu; go_simp; (try with_reducible rfl)
          (try simp only [Act.put, List.setIfInBounds_toArray, List.set_cons_zero, List.set_cons_succ])
          refine regN_take (i := 1) (d := (some 73)) (v := ?v20cx2) (l2 := #[true, true, false, false, false]) rfl rfl rfl (by kernel_rfl) (by kernel_rfl) (by kernel_rfl) (by kernel_rfl) (fun _ _ _ h => h) (by rfl) ?hv20cx2 hS0 ?h20cx2
          case hv20cx2 => intro u hSu; clear hSu; go_simp; (try with_reducible rfl)
          (try simp only [Act.put, List.setIfInBounds_toArray, List.set_cons_zero, List.set_cons_succ])
          refine regN_take (i := 2) (d := (some 74)) (v := ?v20cx3) (l2 := #[true, true, true, false, false]) rfl rfl rfl (by kernel_rfl) (by kernel_rfl) (by kernel_rfl) (by kernel_rfl) (fun _ _ _ h => h) (by rfl) ?hv20cx3 hS0 ?h20cx3
          case hv20cx3 => intro u hSu; (try dsimp only at hSu); (try go_split_ands); go_simp; (try with_reducible rfl)
          (try simp only [Act.put, List.setIfInBounds_toArray, List.set_cons_zero, List.set_cons_succ])
          refine regN_ready (rs := [3]) (by kernel_rfl) (by simp) ?_
          refine (AllN.cons (i := 3) (l2 := #[true, true, true, true, false]) rfl rfl (fun K hK => ?_) AllN.nil)
          go_simp
          have hS1 : ((fun w' => w'.cell? ⟨b, 2, none⟩ = some (.int .i64 e7)) : World → Prop) _ := (fun (W : World) (h : W.cell? ⟨b, 2, none⟩ = some (.int .i64 e7)) => (show W.drew.cell? ⟨b, 2, none⟩ = some (.int .i64 e7) from h)) _ (RdB.cells (show RdB _ b s p7 e7 from (eight_off (B := w.heap.size) (a := .slice none 0 0) (b := .int .i64 0) (c := .int .i64 0) (d := .int .i64 0) (e := .slice none 0 0) (f := .slice none 0 0) (g := .slice none 0 0) (h := .slice none 0 0)).keep (show W13.heap[b]? = _ from HRa.out) hbr)).2.2.1
          refine hK _ _ (fun _ => hS1) ?_
          clear hK K
          (try simp only [Act.put, List.setIfInBounds_toArray, List.set_cons_zero, List.set_cons_succ])
          refine regN_ready (rs := [4]) (by kernel_rfl) (by simp) ?_
          refine (AllN.cons (i := 4) (l2 := #[true, true, true, true, true]) rfl rfl (fun K hK => ?_) AllN.nil)
          go_simp
          refine hK _ _ (fun h => absurd rfl h) ?_
          clear hK K
          (try simp only [Act.put, List.setIfInBounds_toArray, List.set_cons_zero, List.set_cons_succ])
          refine regN_done (by kernel_rfl) ?_ _
          have HZZ := Lib.hid (set_eightF (a := .slice none 0 0) (b := .int .i64 0) (c := .int .i64 0) (d := .int .i64 0) (e := .slice none 0 0) (f := .slice none 0 0) (g := .slice none 0 0) (h := .slice none 0 0) HZ.out)
          have HBZ := Lib.hid (eight_below (B := w.heap.size) (a := .slice none 0 0) (b := .int .i64 0) (c := .int .i64 0) (d := .int .i64 0) (e := .slice none 0 0) (f := .slice none 0 0) (g := .slice none 0 0) (h := .slice none 0 0) (below_on HBB.out HBa.out) (Nat.le_refl _))
          generalize ((((((((W13.setCell ⟨w.heap.size, 0, none⟩ (.slice none 0 0)).setCell ⟨w.heap.size, 1, none⟩ (.int .i64 0)).setCell ⟨w.heap.size, 2, none⟩ (.int .i64 0)).setCell ⟨w.heap.size, 3, none⟩ (.int .i64 0)).setCell ⟨w.heap.size, 4, none⟩ (.slice none 0 0)).setCell ⟨w.heap.size, 5, none⟩ (.slice none 0 0)).setCell ⟨w.heap.size, 6, none⟩ (.slice none 0 0)).setCell ⟨w.heap.size, 7, none⟩ (.slice none 0 0)) = W15 at HZZ HBZ ⊢
          rename_i kk ak
          refine ak _ _ (wp_ret ?_)
          refine bodyPost_ret (fd_ret rfl rfl (show W15.drew.heap[w.heap.size]? = _ from HZZ.out)) rfl ?_
          rw [← HQ.out]
          exact FdRet.no HE0.out h7 HBZ.out.drew
    · obtain rfl : k = m := by omega
      have hg : ¬ (0 : Int) < (k : Int) - k := by omega
      have hex := Lib.hid (Or.inl rfl : k = k ∨ ¬ ek = 0)
      obtain ⟨hIs, hIsl⟩ := II.out.done hex.out HN4.out HV4.out
      have HI1 := Lib.hid hIs
      have HI2 := Lib.hid hIsl
      have HOi := Lib.hid II.out.own
      have hbig := II.out.big
      clear hIs hIsl
      go_upto_region 15 with (go_at_call 32; refine (members_any b s pk ek (by omega) II.out.rng _ II.out.rd).mono ?_; rintro r w8 ⟨mA, mj, mc, Lm, p5, e5, rfl, hO8, hA8, hr8, ho8, hn8, hl8⟩; have HOm := Lib.hid hO8; have HAm := Lib.hid hA8; have HRm := Lib.hid hr8; have HNm := Lib.hid hn8; have HLm := Lib.hid hl8; have hX8 := ho8.keep II.out.box (by omega); obtain ⟨⟨x0, x1, x2, x3, x4, x5, x6, x7⟩, xf, xlt⟩ := eight_cellsF hX8; have HXm := Lib.hid hX8; have HBm := Lib.hid (II.out.bel.trans (ho8.below II.out.bel.size hbg)); have HFm := Lib.hid ho8; have hszm := ho8.size; clear hO8 hr8 hn8 hl8 hX8 ho8 hA8)
      replace HOi := Lib.hid (HOi.out.off HFm.out (by omega))
      have o9 : Off Fb w8 (w8.setCell ⟨Fb, 5, none⟩ (.slice mA mj mc)) := (Off.refl Fb w8).put 5 (.slice mA mj mc)
      have hX9 : (w8.setCell ⟨Fb, 5, none⟩ (.slice mA mj mc)).heap[Fb]? = some (.cells #[.slice pA pn pc, .int .i64 v1, .int .i64 v2, .int .i64 v3, .slice A k c, .slice mA mj mc, .slice none 0 0, .slice none 0 0] 27) := heap_setCell_same w8 Fb 5 _ _ _ HXm.out
      replace HRm := Lib.hid (o9.keep HRm.out (by omega))
      replace HBm := Lib.hid (HBm.out.setCell (p := ⟨Fb, 5, none⟩) hFb2 (.slice mA mj mc))
      replace HOi := Lib.hid (HOi.out.off o9 (by omega))
      replace HOm := Lib.hid (HOm.out.off o9 (by omega))
      replace HAm := Lib.hid (fun y hy => (HAm.out y hy).off o9 (by omega))
      have hsz9 : w8.heap.size ≤ (w8.setCell ⟨Fb, 5, none⟩ (.slice mA mj mc)).heap.size := o9.size
      clear o9
      replace HXm := Lib.hid hX9
      clear hX9
      generalize w8.setCell ⟨Fb, 5, none⟩ (.slice mA mj mc) = W9 at HRm HBm HXm HOi HOm HAm hsz9 ⊢
      have hszm9 := hsz9
      clear hsz9
      go_upto_region 16 with (go_at_call 32; refine (members_any b s p5 e5 (by omega) HNm.out.rng _ HRm.out).mono ?_; rintro r w10 ⟨gA, gj, gc, Lg, p6, e6, rfl, hO8, hA8, hr8, ho8, hn8, hl8⟩; have HOg := Lib.hid hO8; have HAg := Lib.hid hA8; have HRg := Lib.hid hr8; have HNg := Lib.hid hn8; have HLg := Lib.hid hl8; have hX8 := ho8.keep HXm.out (by omega); obtain ⟨⟨x0, x1, x2, x3, x4, x5, x6, x7⟩, xf, xlt⟩ := eight_cellsF hX8; have HXg := Lib.hid hX8; have HBg := Lib.hid (HBm.out.trans (ho8.below HBm.out.size hbg)); have HFg := Lib.hid ho8; have hszg := ho8.size; clear hO8 hr8 hn8 hl8 hX8 ho8 hA8)
      replace HOi := Lib.hid (HOi.out.off HFg.out (by omega))
      replace HOm := Lib.hid (HOm.out.off HFg.out (by omega))
      replace HAm := Lib.hid (fun y hy => (HAm.out y hy).off HFg.out (by omega))
      have o9 : Off Fb w10 (w10.setCell ⟨Fb, 6, none⟩ (.slice gA gj gc)) := (Off.refl Fb w10).put 6 (.slice gA gj gc)
      have hX9 : (w10.setCell ⟨Fb, 6, none⟩ (.slice gA gj gc)).heap[Fb]? = some (.cells #[.slice pA pn pc, .int .i64 v1, .int .i64 v2, .int .i64 v3, .slice A k c, .slice mA mj mc, .slice gA gj gc, .slice none 0 0] 27) := heap_setCell_same w10 Fb 6 _ _ _ HXg.out
      replace HRg := Lib.hid (o9.keep HRg.out (by omega))
      replace HBg := Lib.hid (HBg.out.setCell (p := ⟨Fb, 6, none⟩) hFb2 (.slice gA gj gc))
      replace HOi := Lib.hid (HOi.out.off o9 (by omega))
      replace HOm := Lib.hid (HOm.out.off o9 (by omega))
      replace HAm := Lib.hid (fun y hy => (HAm.out y hy).off o9 (by omega))
      replace HOg := Lib.hid (HOg.out.off o9 (by omega))
      replace HAg := Lib.hid (fun y hy => (HAg.out y hy).off o9 (by omega))
      have hsz9 : w10.heap.size ≤ (w10.setCell ⟨Fb, 6, none⟩ (.slice gA gj gc)).heap.size := o9.size
      clear o9
      replace HXg := Lib.hid hX9
      clear hX9
      generalize w10.setCell ⟨Fb, 6, none⟩ (.slice gA gj gc) = W11 at HRg HBg HXg HOi HOm HAm HOg HAg hsz9 ⊢
      have hszg9 := hsz9
      clear hsz9
      go_upto_region 17 with (go_at_call 33; refine (attributes_any b s p6 e6 (by omega) HNg.out.rng _ HRg.out).mono ?_; rintro r w12 ⟨aA, aj, ac, La, p7, e7, rfl, hO8, hr8, ho8, hn8, hl8⟩; have HOa := Lib.hid hO8; have HRa := Lib.hid hr8; have HNa := Lib.hid hn8; have HLa := Lib.hid hl8; have hX8 := ho8.keep HXg.out (by omega); obtain ⟨⟨x0, x1, x2, x3, x4, x5, x6, x7⟩, xf, xlt⟩ := eight_cellsF hX8; have HXa := Lib.hid hX8; have HBa := Lib.hid (HBg.out.trans (ho8.below HBg.out.size hbg)); have HFa := Lib.hid ho8; have hsza := ho8.size; clear hO8 hr8 hn8 hl8 hX8 ho8)
      replace HOi := Lib.hid (HOi.out.off HFa.out (by omega))
      replace HOm := Lib.hid (HOm.out.off HFa.out (by omega))
      replace HAm := Lib.hid (fun y hy => (HAm.out y hy).off HFa.out (by omega))
      replace HOg := Lib.hid (HOg.out.off HFa.out (by omega))
      replace HAg := Lib.hid (fun y hy => (HAg.out y hy).off HFa.out (by omega))
      have o9 : Off Fb w12 (w12.setCell ⟨Fb, 7, none⟩ (.slice aA aj ac)) := (Off.refl Fb w12).put 7 (.slice aA aj ac)
      have hX9 : (w12.setCell ⟨Fb, 7, none⟩ (.slice aA aj ac)).heap[Fb]? = some (.cells #[.slice pA pn pc, .int .i64 v1, .int .i64 v2, .int .i64 v3, .slice A k c, .slice mA mj mc, .slice gA gj gc, .slice aA aj ac] 27) := heap_setCell_same w12 Fb 7 _ _ _ HXa.out
      replace HRa := Lib.hid (o9.keep HRa.out (by omega))
      replace HBa := Lib.hid (HBa.out.setCell (p := ⟨Fb, 7, none⟩) hFb2 (.slice aA aj ac))
      replace HOi := Lib.hid (HOi.out.off o9 (by omega))
      replace HOm := Lib.hid (HOm.out.off o9 (by omega))
      replace HAm := Lib.hid (fun y hy => (HAm.out y hy).off o9 (by omega))
      replace HOg := Lib.hid (HOg.out.off o9 (by omega))
      replace HAg := Lib.hid (fun y hy => (HAg.out y hy).off o9 (by omega))
      replace HOa := Lib.hid (HOa.out.off o9 (by omega))
      have hsz9 : w12.heap.size ≤ (w12.setCell ⟨Fb, 7, none⟩ (.slice aA aj ac)).heap.size := o9.size
      clear o9
      replace HXa := Lib.hid hX9
      clear hX9
      generalize w12.setCell ⟨Fb, 7, none⟩ (.slice aA aj ac) = W13 at HRa HBa HXa HOi HOm HAm HOg HAg HOa hsz9 ⊢
      have hsza9 := hsz9
      clear hsz9
      have HFIN := Lib.hid (bd_fin HT3.out HI1.out HI2.out HNm.out HLm.out HNg.out HLg.out HNa.out HLa.out)
      have HZ := Lib.hid ((HBa.out.block w.heap.size hRes).trans HH0.out)
      obtain ⟨⟨x0, x1, x2, x3, x4, x5, x6, x7⟩, xf, xlt⟩ := eight_cellsF HXa.out
      obtain ⟨⟨z0, z1, z2, z3, z4, z5, z6, z7⟩, zf, zlt⟩ := eight_cellsF HZ.out
      obtain ⟨c0, c1, c2, q1, q2, hlt2⟩ := (show RdB W13 b s p7 e7 from HRa.out).cells
      have hra := HNa.out.rng
      by_cases h7 : e7 = 0
      · subst h7
        by_cases h8 : p7 = (s.size : Int)
        · have hE0 : fdE s = 0 := by rw [HE.out, HFIN.out.1, if_pos rfl, if_pos h8]
          have HE0 := Lib.hid hE0
          have hF := HFIN.out.2 rfl
          have HFV := Lib.hid hF
          clear hF hE0
          go_upto_region 21 with fail
          rename_i kk ak
          have AK := Lib.hid ak
          clear ak
          go_wp2
          have HZZ := Lib.hid (set_eightF (a := .slice pA pn pc) (b := .int .i64 v1) (c := .int .i64 v2) (d := .int .i64 v3) (e := .slice A k c) (f := .slice mA mj mc) (g := .slice gA gj gc) (h := .slice aA aj ac) HZ.out)
          have HBZ := Lib.hid (eight_below (B := w.heap.size) (a := .slice pA pn pc) (b := .int .i64 v1) (c := .int .i64 v2) (d := .int .i64 v3) (e := .slice A k c) (f := .slice mA mj mc) (g := .slice gA gj gc) (h := .slice aA aj ac) (below_on HBB.out HBa.out) (Nat.le_refl _))
          have HOF := Lib.hid (eight_off (B := w.heap.size) (W := W13) (a := .slice pA pn pc) (b := .int .i64 v1) (c := .int .i64 v2) (d := .int .i64 v3) (e := .slice A k c) (f := .slice mA mj mc) (g := .slice gA gj gc) (h := .slice aA aj ac))
          generalize ((((((((W13.setCell ⟨w.heap.size, 0, none⟩ (.slice pA pn pc)).setCell ⟨w.heap.size, 1, none⟩ (.int .i64 v1)).setCell ⟨w.heap.size, 2, none⟩ (.int .i64 v2)).setCell ⟨w.heap.size, 3, none⟩ (.int .i64 v3)).setCell ⟨w.heap.size, 4, none⟩ (.slice A k c)).setCell ⟨w.heap.size, 5, none⟩ (.slice mA mj mc)).setCell ⟨w.heap.size, 6, none⟩ (.slice gA gj gc)).setCell ⟨w.heap.size, 7, none⟩ (.slice aA aj ac)) = W15 at HZZ HBZ HOF ⊢
          refine AK.out _ _ (wp_ret ?_)
          refine bodyPost_ret (fd_ret rfl rfl HZZ.out) rfl ?_
          rw [← HQ.out]
          refine ⟨⟨deL s 6, pA, pn, pc, v1, v2, v3, L, A, k, c, Lm, mA, mj, mc, Lg, gA, gj, gc, La, aA, aj, ac⟩, by rw [HE0.out]; rfl, ?_, fin_ok HL0.out HP0.out HBa.out HZ.out HOF.out HOi.out (by omega) HOm.out (by omega) HAm.out (by omega) HOg.out (by omega) HAg.out (by omega) HOa.out (by omega), HBZ.out⟩
          obtain ⟨t1, t2, t3, t4, t5, t6, t7⟩ := HFV.out
          unfold fdR fdV Fi.v
          rw [if_pos HE0.out, HQ0.out, t1, t2, t3, t4, t7]
          simp only [t5, t6]
        · have hE0 : fdE s = 10 := by rw [HE.out, HFIN.out.1, if_pos rfl, if_neg h8]
          have HE0 := Lib.hid hE0
          clear hE0
          go_wp2_with (go_at_call 34; refine (fail_any b s p7 0 10 _ HRa.out).mono ?_; rintro r w14 ⟨rfl, hr, ho⟩; have hr14 : RdB w14 b s p7 10 := (by simpa using hr); obtain ⟨c0, c1, c2, q1, q2, hlt3⟩ := hr14.cells; have hz14 := ho.keep HZ.out (by omega); obtain ⟨⟨z0, z1, z2, z3, z4, z5, z6, z7⟩, zf, zlt⟩ := eight_cellsF hz14; have HZ14 := Lib.hid hz14; have HR14 := Lib.hid hr14; clear x0 x1 x2 x3 x4 x5 x6 x7 xf xlt; have HB14 := Lib.hid (HBa.out.trans (ho.below HBa.out.size hbg)); clear hr hr14 ho hz14)
          refine regN_start (N := 4) (S := (fun w' => w'.cell? ⟨b, 2, none⟩ = some (.int .i64 10))) (by kernel_rfl) ?_
          change wpAnyN _ _ _ _ _ _ _ #[false, false, false, false, false] _ (World.drew _)
          have hS0 := c2
          refine regN_take (i := 0) (d := (some 72)) (v := ?v20dx1) (l2 := #[true, false, false, false, false]) rfl rfl rfl (by kernel_rfl) (by kernel_rfl) (by kernel_rfl) (by kernel_rfl) (fun _ _ _ h => h) (by rfl) ?hv20dx1 hS0 ?h20dx1
          case hv20dx1 => intro u hSu; clear hSu; go_simp; (try with_reducible rfl)
          (try simp only [Act.put, List.setIfInBounds_toArray, List.set_cons_zero, List.set_cons_succ])
          refine regN_take (i := 1) (d := (some 73)) (v := ?v20dx2) (l2 := #[true, true, false, false, false]) rfl rfl rfl (by kernel_rfl) (by kernel_rfl) (by kernel_rfl) (by kernel_rfl) (fun _ _ _ h => h) (by rfl) ?hv20dx2 hS0 ?h20dx2
          case hv20dx2 => intro u hSu; clear hSu; go_simp; (try with_reducible rfl)
          (try simp only [Act.put, List.setIfInBounds_toArray, List.set_cons_zero, List.set_cons_succ])
          refine regN_take (i := 2) (d := (some 74)) (v := ?v20dx3) (l2 := #[true, true, true, false, false]) rfl rfl rfl (by kernel_rfl) (by kernel_rfl) (by kernel_rfl) (by kernel_rfl) (fun _ _ _ h => h) (by rfl) ?hv20dx3 hS0 ?h20dx3
          case hv20dx3 => intro u hSu; (try dsimp only at hSu); (try go_split_ands); go_simp; (try with_reducible rfl)
          (try simp only [Act.put, List.setIfInBounds_toArray, List.set_cons_zero, List.set_cons_succ])
          refine regN_ready (rs := [3]) (by kernel_rfl) (by simp) ?_
          refine (AllN.cons (i := 3) (l2 := #[true, true, true, true, false]) rfl rfl (fun K hK => ?_) AllN.nil)
          go_simp
          have hS1 : ((fun w' => w'.cell? ⟨b, 2, none⟩ = some (.int .i64 10)) : World → Prop) _ := (fun (W : World) (h : W.cell? ⟨b, 2, none⟩ = some (.int .i64 10)) => (show W.drew.cell? ⟨b, 2, none⟩ = some (.int .i64 10) from h)) _ (RdB.cells (show RdB _ b s p7 10 from (eight_off (B := w.heap.size) (a := .slice none 0 0) (b := .int .i64 0) (c := .int .i64 0) (d := .int .i64 0) (e := .slice none 0 0) (f := .slice none 0 0) (g := .slice none 0 0) (h := .slice none 0 0)).keep (show w14.heap[b]? = _ from HR14.out) hbr)).2.2.1
          refine hK _ _ (fun _ => hS1) ?_
          clear hK K
          (try simp only [Act.put, List.setIfInBounds_toArray, List.set_cons_zero, List.set_cons_succ])
          refine regN_ready (rs := [4]) (by kernel_rfl) (by simp) ?_
          refine (AllN.cons (i := 4) (l2 := #[true, true, true, true, true]) rfl rfl (fun K hK => ?_) AllN.nil)
          go_simp
          refine hK _ _ (fun h => absurd rfl h) ?_
          clear hK K
          (try simp only [Act.put, List.setIfInBounds_toArray, List.set_cons_zero, List.set_cons_succ])
          refine regN_done (by kernel_rfl) ?_ _
          have HZZ := Lib.hid (set_eightF (a := .slice none 0 0) (b := .int .i64 0) (c := .int .i64 0) (d := .int .i64 0) (e := .slice none 0 0) (f := .slice none 0 0) (g := .slice none 0 0) (h := .slice none 0 0) HZ14.out)
          have HBZ := Lib.hid (eight_below (B := w.heap.size) (a := .slice none 0 0) (b := .int .i64 0) (c := .int .i64 0) (d := .int .i64 0) (e := .slice none 0 0) (f := .slice none 0 0) (g := .slice none 0 0) (h := .slice none 0 0) (below_on HBB.out HB14.out) (Nat.le_refl _))
          generalize ((((((((w14.setCell ⟨w.heap.size, 0, none⟩ (.slice none 0 0)).setCell ⟨w.heap.size, 1, none⟩ (.int .i64 0)).setCell ⟨w.heap.size, 2, none⟩ (.int .i64 0)).setCell ⟨w.heap.size, 3, none⟩ (.int .i64 0)).setCell ⟨w.heap.size, 4, none⟩ (.slice none 0 0)).setCell ⟨w.heap.size, 5, none⟩ (.slice none 0 0)).setCell ⟨w.heap.size, 6, none⟩ (.slice none 0 0)).setCell ⟨w.heap.size, 7, none⟩ (.slice none 0 0)) = W15 at HZZ HBZ ⊢
          rename_i kk ak
          refine ak _ _ (wp_ret ?_)
          refine bodyPost_ret (fd_ret rfl rfl (show W15.drew.heap[w.heap.size]? = _ from HZZ.out)) rfl ?_
          rw [← HQ.out]
          exact FdRet.no HE0.out (by decide) HBZ.out.drew
      · have hE0 : fdE s = e7 := by rw [HE.out, HFIN.out.1, if_neg h7]
        have HE0 := Lib.hid hE0
        clear hE0
        go_wp2
        clear x0 x1 x2 x3 x4 x5 x6 x7 xf xlt c0 c1
        refine regN_start (N := 4) (S := (fun w' => w'.cell? ⟨b, 2, none⟩ = some (.int .i64 e7))) (by kernel_rfl) ?_
        change wpAnyN _ _ _ _ _ _ _ #[false, false, false, false, false] _ (World.drew _)
        have hS0 := c2
        refine regN_take (i := 0) (d := (some 72)) (v := ?v20ex1) (l2 := #[true, false, false, false, false]) rfl rfl rfl (by kernel_rfl) (by kernel_rfl) (by kernel_rfl) (by kernel_rfl) (fun _ _ _ h => h) (by rfl) ?hv20ex1 hS0 ?h20ex1
        case hv20ex1 => intro u hSu; clear hSu; go_simp; (try with_reducible rfl)
        (try simp only [Act.put, List.setIfInBounds_toArray, List.set_cons_zero, List.set_cons_succ])
        refine regN_take (i := 1) (d := (some 73)) (v := ?v20ex2) (l2 := #[true, true, false, false, false]) rfl rfl rfl (by kernel_rfl) (by kernel_rfl) (by kernel_rfl) (by kernel_rfl) (fun _ _ _ h => h) (by rfl) ?hv20ex2 hS0 ?h20ex2
        case hv20ex2 => intro u hSu; clear hSu; go_simp; (try with_reducible rfl)
        (try simp only [Act.put, List.setIfInBounds_toArray, List.set_cons_zero, List.set_cons_succ])
        refine regN_take (i := 2) (d := (some 74)) (v := ?v20ex3) (l2 := #[true, true, true, false, false]) rfl rfl rfl (by kernel_rfl) (by kernel_rfl) (by kernel_rfl) (by kernel_rfl) (fun _ _ _ h => h) (by rfl) ?hv20ex3 hS0 ?h20ex3
        case hv20ex3 => intro u hSu; (try dsimp only at hSu); (try go_split_ands); go_simp; (try with_reducible rfl)
        (try simp only [Act.put, List.setIfInBounds_toArray, List.set_cons_zero, List.set_cons_succ])
        refine regN_ready (rs := [3]) (by kernel_rfl) (by simp) ?_
        refine (AllN.cons (i := 3) (l2 := #[true, true, true, true, false]) rfl rfl (fun K hK => ?_) AllN.nil)
        go_simp
        have hS1 : ((fun w' => w'.cell? ⟨b, 2, none⟩ = some (.int .i64 e7)) : World → Prop) _ := (fun (W : World) (h : W.cell? ⟨b, 2, none⟩ = some (.int .i64 e7)) => (show W.drew.cell? ⟨b, 2, none⟩ = some (.int .i64 e7) from h)) _ (RdB.cells (show RdB _ b s p7 e7 from (eight_off (B := w.heap.size) (a := .slice none 0 0) (b := .int .i64 0) (c := .int .i64 0) (d := .int .i64 0) (e := .slice none 0 0) (f := .slice none 0 0) (g := .slice none 0 0) (h := .slice none 0 0)).keep (show W13.heap[b]? = _ from HRa.out) hbr)).2.2.1
        refine hK _ _ (fun _ => hS1) ?_
        clear hK K
        (try simp only [Act.put, List.setIfInBounds_toArray, List.set_cons_zero, List.set_cons_succ])
        refine regN_ready (rs := [4]) (by kernel_rfl) (by simp) ?_
        refine (AllN.cons (i := 4) (l2 := #[true, true, true, true, true]) rfl rfl (fun K hK => ?_) AllN.nil)
        go_simp
        refine hK _ _ (fun h => absurd rfl h) ?_
        clear hK K
        (try simp only [Act.put, List.setIfInBounds_toArray, List.set_cons_zero, List.set_cons_succ])
        refine regN_done (by kernel_rfl) ?_ _
        have HZZ := Lib.hid (set_eightF (a := .slice none 0 0) (b := .int .i64 0) (c := .int .i64 0) (d := .int .i64 0) (e := .slice none 0 0) (f := .slice none 0 0) (g := .slice none 0 0) (h := .slice none 0 0) HZ.out)
        have HBZ := Lib.hid (eight_below (B := w.heap.size) (a := .slice none 0 0) (b := .int .i64 0) (c := .int .i64 0) (d := .int .i64 0) (e := .slice none 0 0) (f := .slice none 0 0) (g := .slice none 0 0) (h := .slice none 0 0) (below_on HBB.out HBa.out) (Nat.le_refl _))
        generalize ((((((((W13.setCell ⟨w.heap.size, 0, none⟩ (.slice none 0 0)).setCell ⟨w.heap.size, 1, none⟩ (.int .i64 0)).setCell ⟨w.heap.size, 2, none⟩ (.int .i64 0)).setCell ⟨w.heap.size, 3, none⟩ (.int .i64 0)).setCell ⟨w.heap.size, 4, none⟩ (.slice none 0 0)).setCell ⟨w.heap.size, 5, none⟩ (.slice none 0 0)).setCell ⟨w.heap.size, 6, none⟩ (.slice none 0 0)).setCell ⟨w.heap.size, 7, none⟩ (.slice none 0 0)) = W15 at HZZ HBZ ⊢
        rename_i kk ak
        refine ak _ _ (wp_ret ?_)
        refine bodyPost_ret (fd_ret rfl rfl (show W15.drew.heap[w.heap.size]? = _ from HZZ.out)) rfl ?_
        rw [← HQ.out]
        exact FdRet.no HE0.out h7 HBZ.out.drew

end Go.Proofs.YthfegbhbokhlkaaGreatDoor
