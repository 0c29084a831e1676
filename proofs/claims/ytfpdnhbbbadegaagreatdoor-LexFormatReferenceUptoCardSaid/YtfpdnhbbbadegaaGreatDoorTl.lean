/- Layer 53, the reference: quoted. (gen/tl.py) -/
import Derived.Test.YtfpdnhbbbadegaaGreatDoorTe
import Derived.Test.YtfpdnhbbbadegaaGreatDoorTk
import Derived.Test.YtfpdnhbbbadegaaGreatDoorReg
namespace Go.Proofs.YtfpdnhbbbadegaaGreatDoor
open Go.ChangeShapes Go.WideShapes Go.ChangeAt Go.RowKit Go.PlainAid
set_option linter.unusedSimpArgs false
set_option linter.unusedVariables false

theorem newUL {w : World} (M : List UInt8) (X : Array Value) (h : (fl uF M).toArray = X) : ∀ j u, (fl uF M)[j]? = some u → (w.alloc (.cells X 5)).cell? ⟨w.heap.size, j, none⟩ = some u := by
  intro j u hu
  subst h
  have h := World.alloc_heap_new w (.cells (fl uF M).toArray 5)
  generalize w.alloc (.cells (fl uF M).toArray 5) = W at h ⊢
  simp only [World.cell?, h]
  simpa using hu
theorem own_lit1U {w : World} {B : Nat} (c : UInt8) (b : Int) (hb : (c.toNat : Int) = b) (hB : B ≤ w.heap.size) : OwnR uF 1 5 (w.alloc (.cells #[.int .u8 b] 5)) B (some ⟨w.heap.size, 0, none⟩) 1 1 [c] := by
  subst hb
  exact ⟨rfl, Nat.le_refl _, (fun e => by cases e), rfl, Or.inr ⟨w.heap.size, 1, #[.int .u8 (c.toNat : Int)], rfl, hB, World.alloc_heap_new _ _, Nat.le_refl _, by unfold maxLen; omega, rfl, rfl⟩⟩
theorem wp_append_uN {w : World} {o : Oper} {a : Act} {K : Act → World → Prop} {Q : Exit → Act → World → Prop} (s x : Operand)
    (hop : o.op = Op.call { callee := Callee.builtin Builtin.append, args := #[s, x], argTypes := #[47, 47] }) (M : List UInt8)
    {base n c B m : Nat} {A : Option Addr} {L : List UInt8} (hm : M.length = m) (hs : a.eval s = .slice A n c) (hO : OwnR uF 1 5 w base A n c L) (hx : a.eval x = .slice (some ⟨B, 0, none⟩) m m)
    (hi : ∀ j u, (fl uF M)[j]? = some u → w.cell? ⟨B, j, none⟩ = some u) (hb : n + m ≤ 140737488355328) (hbase : base ≤ w.heap.size)
    (h : ∀ A' c' w', OwnR uF 1 5 w' base A' (n + m) c' (L ++ M) → Below base w w' → w.grownBy w' (Value.slice A n c).ownBlock → K (a.put o.dst (.slice A' (n + m) c')) w') : o.wp Tryz.prog a w K Q := by
  obtain ⟨i0, hi0, hz0, hz1, hz2⟩ := info_parts info_uF
  refine _root_.Go.wp_append_own (w := w) s x 47 hop base 5 i0 _ 1 1 Tryz.underlying47 hi0 hz0 hz1 hz2 rfl (by decide) (.slice A n c) n (fl uF L) hs hO.own ⟨B, 0, none⟩ m m (fl uF M) hx (by rw [fl_len uF_len, hm]) (fun j u hu => by
    rw [Addr.add_lit, Nat.zero_add]; exact hi j u hu) (fl_cell uF_one _) (by unfold maxLen; omega) (by omega) hbase ?_
  intro v' w' h1 h2 _
  rw [← fl_app] at h1
  obtain ⟨A', c', rfl, hle, _, hnz⟩ := own_formG h1
  exact h A' c' w' ⟨by rw [List.length_append, hO.len, hm], hle, hnz, h1⟩ (grown_below h2 (fun k hk => (hO.own.lt k hk).1) hbase) h2
theorem append_uN {w : World} {ops : Array Oper} {rest : List Oper} {o : Oper} {a : Act} {Q : Exit → Act → World → Prop} (hg : o.guard = none) (s x : Operand)
    (hop : o.op = Op.call { callee := Callee.builtin Builtin.append, args := #[s, x], argTypes := #[47, 47] }) (M : List UInt8)
    {base n c B m : Nat} {A : Option Addr} {L : List UInt8} (hm : M.length = m) (hs : a.eval s = .slice A n c) (hO : OwnR uF 1 5 w base A n c L) (hx : a.eval x = .slice (some ⟨B, 0, none⟩) m m)
    (hi : ∀ j u, (fl uF M)[j]? = some u → w.cell? ⟨B, j, none⟩ = some u) (hb : n + m ≤ 140737488355328) (hbase : base ≤ w.heap.size)
    (h : ∀ A' c' w', OwnR uF 1 5 w' base A' (n + m) c' (L ++ M) → Below base w w' → w.grownBy w' (Value.slice A n c).ownBlock → wpList Tryz.prog ops Q rest (a.put o.dst (.slice A' (n + m) c')) w') : wpList Tryz.prog ops Q (o :: rest) a w :=
  wpList_plain hg fun _ hK => wp_append_uN s x hop M hm hs hO hx hi hb hbase fun A' c' w' h1 h2 h3 => hK _ _ (h A' c' w' h1 h2 h3)
theorem step_append_uN {w : World} {ops : Array Oper} {o : Oper} {a : Act} {K : Act → World → Prop} {Q : Exit → Act → World → Prop} {E : Prop} (hg : o.guard = none) (s x : Operand)
    (hop : o.op = Op.call { callee := Callee.builtin Builtin.append, args := #[s, x], argTypes := #[47, 47] }) (M : List UInt8)
    {base n c B m : Nat} {A : Option Addr} {L : List UInt8} (hm : M.length = m) (hs : a.eval s = .slice A n c) (hO : OwnR uF 1 5 w base A n c L) (hx : a.eval x = .slice (some ⟨B, 0, none⟩) m m)
    (hi : ∀ j u, (fl uF M)[j]? = some u → w.cell? ⟨B, j, none⟩ = some u) (hb : n + m ≤ 140737488355328) (hbase : base ≤ w.heap.size)
    (h : ∀ A' c' w', OwnR uF 1 5 w' base A' (n + m) c' (L ++ M) → Below base w w' → w.grownBy w' (Value.slice A n c).ownBlock → K (a.put o.dst (.slice A' (n + m) c')) w') : if Region.wanted o (yielded ops a.tmps) = true then Oper.wp Tryz.prog o a w K Q else E := by
  have hw : Region.wanted o (yielded ops a.tmps) = true := by simp [Region.wanted, hg]
  rw [if_pos hw]
  exact wp_append_uN s x hop M hm hs hO hx hi hb hbase h
set_option maxRecDepth 100000 in
set_option maxHeartbeats 4000000 in
theorem rquoted_any (s : ByteArray) (hs : s.size ≤ 1048576) (w : World) : Calls Tryz.prog 26 #[.string s] w fun e w' => e = .returned (.string (bsB (quL s.data.toList))) ∧ Below w.heap.size w w' := by
  have hb := get_bt s
  have hlen := len_data s
  have hz0 : (⟨#[48, 49, 50, 51, 52, 53, 54, 55, 56, 57, 97, 98, 99, 100, 101, 102]⟩ : ByteArray).size = 16 := rfl
  obtain ⟨l, hl⟩ : ∃ l, s.data.toList = l := ⟨_, rfl⟩
  have HL := Lib.hid hl
  rw [hl] at hlen ⊢
  have HB0 := Lib.hid (below_al (Below.refl w.heap.size w) (.cells #[.int .u8 34] 5))
  have HO0 := Lib.hid (own_lit1U (w := w) (B := w.heap.size) 34 34 rfl (Nat.le_refl _))
  clear hl
  go_enter Tryz.func26, Tryz.ntmps26
  go_wp2
  go_loopw [3, 4] (fun b i wr => ∃ (k n c g : Nat) (bs : List UInt8), i = .int .i64 k ∧ b = .slice (some ⟨g, 0, none⟩) n c ∧ k ≤ s.size ∧ bs = 34 :: (l.take k).flatMap qtC ∧ OwnR uF 1 5 wr w.heap.size (some ⟨g, 0, none⟩) n c bs ∧ Below w.heap.size w wr) (fun _ i _ => s.size - (intOf i).toNat)
  case atStart => exact ⟨0, 1, 1, w.heap.size, [34], rfl, rfl, Nat.zero_le _, rfl, HO0.out, HB0.out⟩
  case round =>
    clear HO0 HB0
    obtain ⟨k, n, c, g, bs, rfl, rfl, hk, rfl, hO, hB⟩ := hrel
    have HO := Lib.hid hO
    have HBW := Lib.hid hB
    have hln := hO.len
    have hql := qt_len (l.take k)
    rw [List.length_take] at hql
    rw [List.length_cons] at hln
    have hwsz := hB.size
    clear hO hB
    by_cases hlt : k < s.size
    · obtain ⟨c0, r, hd, hc, hr⟩ := drop_bt hlt
      rw [HL.out] at hd hr
      have hb0 := bt_nonneg s k
      have hb1 := bt_le s k
      have HT := Lib.hid (show (l.take (k + 1)).flatMap qtC = (l.take k).flatMap qtC ++ qtC c0 by
        have h : l[k]? = some c0 := by rw [← List.head?_drop, hd]; rfl
        rw [List.take_add_one, h, List.flatMap_append]
        simp)
      have HCC := Lib.hid hc
      have hn8 : n + 4 ≤ 10000000 := by omega
      clear hd hc hr hql hln
      by_cases h34 : bt s k = 34
      · have HQ := Lib.hid (show qtC c0 = [92, c0] by unfold qtC; rw [if_pos (by have := HCC.out; omega)])
        have e34 : (bt s k == 34) = true := by simpa using h34
        clear h34
        have HNW := Lib.hid (show (fl uF [92, c0]).toArray = #[.int .u8 92, .int .u8 (bt s k)] by simp [fl, uF, HCC.out]); go_wp2_with (at_builtin; refine append_uN (m := 2) (by rfl) _ _ (by rfl) [92, c0] (by rfl) (by rfl) (HO.out.below (below_al (Below.refl _ _) _)) (by rfl) (newUL _ _ HNW.out) (by omega) (by simp; omega) ?_; intro A2 c2 w8 hO8 hb8 hg8; have HO8 := Lib.hid hO8; have HB8 := Lib.hid ((below_al HBW.out _).trans hb8); clear hO8 hb8 hg8)
        obtain ⟨g2, cap, hv, _, _⟩ := HO8.out.own.form (by omega)
        obtain rfl : A2 = some ⟨g2, 0, none⟩ := by injection hv
        refine ⟨⟨k + 1, _, _, _, _, by go_num, rfl, by omega, ?_, HO8.out, HB8.out⟩, ?_⟩
        · rw [HT.out, HQ.out]; rfl
        · simp [intOf]; omega
      · have e34 : (bt s k == 34) = false := by simpa using h34
        by_cases h92 : bt s k = 92
        · have HQ := Lib.hid (show qtC c0 = [92, c0] by unfold qtC; rw [if_pos (by have := HCC.out; omega)])
          have e92 : (bt s k == 92) = true := by simpa using h92
          clear h34 h92
          have HNW := Lib.hid (show (fl uF [92, c0]).toArray = #[.int .u8 92, .int .u8 (bt s k)] by simp [fl, uF, HCC.out]); go_wp2_with (at_builtin; refine append_uN (m := 2) (by rfl) _ _ (by rfl) [92, c0] (by rfl) (by rfl) (HO.out.below (below_al (Below.refl _ _) _)) (by rfl) (newUL _ _ HNW.out) (by omega) (by simp; omega) ?_; intro A2 c2 w8 hO8 hb8 hg8; have HO8 := Lib.hid hO8; have HB8 := Lib.hid ((below_al HBW.out _).trans hb8); clear hO8 hb8 hg8)
          obtain ⟨g2, cap, hv, _, _⟩ := HO8.out.own.form (by omega)
          obtain rfl : A2 = some ⟨g2, 0, none⟩ := by injection hv
          refine ⟨⟨k + 1, _, _, _, _, by go_num, rfl, by omega, ?_, HO8.out, HB8.out⟩, ?_⟩
          · rw [HT.out, HQ.out]; rfl
          · simp [intOf]; omega
        · have e92 : (bt s k == 92) = false := by simpa using h92
          by_cases h10 : bt s k = 10
          · have HQ := Lib.hid (show qtC c0 = [92, 110] by unfold qtC; rw [if_neg (by have := HCC.out; omega), if_pos (by have := HCC.out; omega)])
            have e10 : (bt s k == 10) = true := by simpa using h10
            clear h34 h92 h10
            have HNW := Lib.hid (show (fl uF [92, 110]).toArray = #[.int .u8 92, .int .u8 110] by rfl); go_wp2_with (at_builtin; refine append_uN (m := 2) (by rfl) _ _ (by rfl) [92, 110] (by rfl) (by rfl) (HO.out.below (below_al (Below.refl _ _) _)) (by rfl) (newUL _ _ HNW.out) (by omega) (by simp; omega) ?_; intro A2 c2 w8 hO8 hb8 hg8; have HO8 := Lib.hid hO8; have HB8 := Lib.hid ((below_al HBW.out _).trans hb8); clear hO8 hb8 hg8)
            obtain ⟨g2, cap, hv, _, _⟩ := HO8.out.own.form (by omega)
            obtain rfl : A2 = some ⟨g2, 0, none⟩ := by injection hv
            refine ⟨⟨k + 1, _, _, _, _, by go_num, rfl, by omega, ?_, HO8.out, HB8.out⟩, ?_⟩
            · rw [HT.out, HQ.out]; rfl
            · simp [intOf]; omega
          · have e10 : (bt s k == 10) = false := by simpa using h10
            by_cases h32 : bt s k < 32 ∨ 126 < bt s k
            · have HQ := Lib.hid (show qtC c0 = [92, 120, hxC (c0.toNat / 16), hxC (c0.toNat % 16)] by unfold qtC; rw [if_neg (by have := HCC.out; omega), if_neg (by have := HCC.out; omega), if_pos (by have := HCC.out; omega)])
              clear h34 h92 h10
              obtain ⟨q, hq⟩ : ∃ q : Nat, c0.toNat / 16 = q := ⟨_, rfl⟩
              obtain ⟨r2, hr2⟩ : ∃ r2 : Nat, c0.toNat % 16 = r2 := ⟨_, rfl⟩
              rw [hq, hr2] at HQ
              have hq1 : (q : Int) < 16 := by have := HCC.out; omega
              have hr1 : (r2 : Int) < 16 := by have := HCC.out; omega
              have hw1 : IntKind.u8.wrap ((bt s k).tdiv 16) = (q : Int) := by
                rw [Int.tdiv_eq_ediv_of_nonneg hb0, show bt s k / 16 = (q : Int) by have := HCC.out; omega]
                unfold IntKind.wrap; simp [IntKind.bits, IntKind.signed]; omega
              have hw2 : (bt s k).tmod 16 = (r2 : Int) := by rw [Int.tmod_eq_emod_of_nonneg hb0]; have := HCC.out; omega
              clear hq hr2
              rcases h32 with h32 | h32
              · go_upto_region 6 with fail
                refine regN_start (N := 9) (S := (fun W : World => True)) (by kernel_rfl) ?_
                change wpAnyN _ _ _ _ _ _ _ #[false, false, false, false, false, false, false, false, false, false] _ (World.drew _)
                have hS0 := trivial
                refine regN_take (i := 0) (d := (some 16)) (v := ?v6x1) (l2 := #[true, false, false, false, false, false, false, false, false, false]) rfl rfl rfl (by kernel_rfl) (by kernel_rfl) (by kernel_rfl) (by kernel_rfl) (fun _ _ _ h => h) (by rfl) ?hv6x1 hS0 ?h6x1
                case hv6x1 => intro u hSu; clear hSu; go_simp; (try with_reducible rfl)
                (try simp only [Act.put, List.setIfInBounds_toArray, List.set_cons_zero, List.set_cons_succ])
                refine regN_take (i := 1) (d := (some 17)) (v := ?v6x2) (l2 := #[true, true, false, false, false, false, false, false, false, false]) rfl rfl rfl (by kernel_rfl) (by kernel_rfl) (by kernel_rfl) (by kernel_rfl) (fun _ _ _ h => h) (by rfl) ?hv6x2 hS0 ?h6x2
                case hv6x2 => intro u hSu; clear hSu; go_simp; (try with_reducible rfl)
                (try simp only [Act.put, List.setIfInBounds_toArray, List.set_cons_zero, List.set_cons_succ])
                refine regN_take (i := 2) (d := (some 18)) (v := ?v6x3) (l2 := #[true, true, true, false, false, false, false, false, false, false]) rfl rfl rfl (by kernel_rfl) (by kernel_rfl) (by kernel_rfl) (by kernel_rfl) (fun _ _ _ h => h) (by rfl) ?hv6x3 hS0 ?h6x3
                case hv6x3 => intro u hSu; clear hSu; go_simp; (try with_reducible rfl)
                (try simp only [Act.put, List.setIfInBounds_toArray, List.set_cons_zero, List.set_cons_succ])
                refine regN_take (i := 3) (d := (some 19)) (v := ?v6x4) (l2 := #[true, true, true, true, false, false, false, false, false, false]) rfl rfl rfl (by kernel_rfl) (by kernel_rfl) (by kernel_rfl) (by kernel_rfl) (fun _ _ _ h => h) (by rfl) ?hv6x4 hS0 ?h6x4
                case hv6x4 => intro u hSu; clear hSu; go_simp; (try with_reducible rfl)
                (try simp only [Act.put, List.setIfInBounds_toArray, List.set_cons_zero, List.set_cons_succ])
                refine regN_take (i := 4) (d := (some 20)) (v := ?v6x5) (l2 := #[true, true, true, true, true, false, false, false, false, false]) rfl rfl rfl (by kernel_rfl) (by kernel_rfl) (by kernel_rfl) (by kernel_rfl) (fun _ _ _ h => h) (by rfl) ?hv6x5 hS0 ?h6x5
                case hv6x5 => intro u hSu; clear hSu; go_simp; (try with_reducible rfl)
                (try simp only [Act.put, List.setIfInBounds_toArray, List.set_cons_zero, List.set_cons_succ])
                refine regN_take (i := 5) (d := (some 21)) (v := ?v6x6) (l2 := #[true, true, true, true, true, true, false, false, false, false]) rfl rfl rfl (by kernel_rfl) (by kernel_rfl) (by kernel_rfl) (by kernel_rfl) (fun _ _ _ h => h) (by rfl) ?hv6x6 hS0 ?h6x6
                case hv6x6 => intro u hSu; clear hSu; go_simp; (try with_reducible rfl)
                (try simp only [Act.put, List.setIfInBounds_toArray, List.set_cons_zero, List.set_cons_succ])
                refine regN_take (i := 6) (d := (some 22)) (v := ?v6x7) (l2 := #[true, true, true, true, true, true, true, false, false, false]) rfl rfl rfl (by kernel_rfl) (by kernel_rfl) (by kernel_rfl) (by kernel_rfl) (fun _ _ _ h => h) (by rfl) ?hv6x7 hS0 ?h6x7
                case hv6x7 => intro u hSu; clear hSu; go_simp; (try with_reducible rfl)
                (try simp only [Act.put, List.setIfInBounds_toArray, List.set_cons_zero, List.set_cons_succ])
                refine regN_ready (rs := [7]) (by kernel_rfl) (by simp) ?_
                refine (AllN.cons (i := 7) (l2 := #[true, true, true, true, true, true, true, true, false, false]) rfl rfl (fun K hK => ?_) AllN.nil)
                go_simp
                refine hK _ _ (fun _ => trivial) ?_
                clear hK K
                (try simp only [Act.put, List.setIfInBounds_toArray, List.set_cons_zero, List.set_cons_succ])
                refine regN_ready (rs := [8]) (by kernel_rfl) (by simp) ?_
                refine (AllN.cons (i := 8) (l2 := #[true, true, true, true, true, true, true, true, true, false]) rfl rfl (fun K hK => ?_) AllN.nil)
                refine step_append_uN (m := 4) (by rfl) _ _ (by rfl) [92, 120, hxC q, hxC r2] (by rfl) (by rfl) (HO.out.below (below_al (Below.refl _ _).drew _)) (by rfl) (newUL _ _ ?e7) (by omega) (by have := HBW.out.size; simp; omega) ?_
                case e7 => simp [fl, uF, dg_one]
                intro A2 c2 w8 hO8 hb8 hg8
                refine hK _ _ (fun _ => trivial) ?_
                clear hK K
                (try simp only [Act.put, List.setIfInBounds_toArray, List.set_cons_zero, List.set_cons_succ])
                refine regN_ready (rs := [9]) (by kernel_rfl) (by simp) ?_
                refine (AllN.cons (i := 9) (l2 := #[true, true, true, true, true, true, true, true, true, true]) rfl rfl (fun K hK => ?_) AllN.nil)
                go_simp
                refine hK _ _ (fun h => absurd rfl h) ?_
                clear hK K
                (try simp only [Act.put, List.setIfInBounds_toArray, List.set_cons_zero, List.set_cons_succ])
                refine regN_done (by kernel_rfl) ?_ _
                have HO8 := Lib.hid hO8
                have HB8 := Lib.hid ((below_al HBW.out.drew _).trans hb8)
                clear hO8 hb8 hg8
                go_wp2
                obtain ⟨g2, cap, hv, _, _⟩ := HO8.out.own.form (by omega)
                obtain rfl : A2 = some ⟨g2, 0, none⟩ := by injection hv
                refine ⟨⟨k + 1, _, _, _, _, by go_num, rfl, by omega, ?_, HO8.out, HB8.out⟩, ?_⟩
                · rw [HT.out, HQ.out]; rfl
                · simp [intOf]; omega
              · go_upto_region 6 with fail
                refine regN_start (N := 9) (S := (fun W : World => True)) (by kernel_rfl) ?_
                change wpAnyN _ _ _ _ _ _ _ #[false, false, false, false, false, false, false, false, false, false] _ (World.drew _)
                have hS0 := trivial
                refine regN_take (i := 0) (d := (some 16)) (v := ?v7x1) (l2 := #[true, false, false, false, false, false, false, false, false, false]) rfl rfl rfl (by kernel_rfl) (by kernel_rfl) (by kernel_rfl) (by kernel_rfl) (fun _ _ _ h => h) (by rfl) ?hv7x1 hS0 ?h7x1
                case hv7x1 => intro u hSu; clear hSu; go_simp; (try with_reducible rfl)
                (try simp only [Act.put, List.setIfInBounds_toArray, List.set_cons_zero, List.set_cons_succ])
                refine regN_take (i := 1) (d := (some 17)) (v := ?v7x2) (l2 := #[true, true, false, false, false, false, false, false, false, false]) rfl rfl rfl (by kernel_rfl) (by kernel_rfl) (by kernel_rfl) (by kernel_rfl) (fun _ _ _ h => h) (by rfl) ?hv7x2 hS0 ?h7x2
                case hv7x2 => intro u hSu; clear hSu; go_simp; (try with_reducible rfl)
                (try simp only [Act.put, List.setIfInBounds_toArray, List.set_cons_zero, List.set_cons_succ])
                refine regN_take (i := 2) (d := (some 18)) (v := ?v7x3) (l2 := #[true, true, true, false, false, false, false, false, false, false]) rfl rfl rfl (by kernel_rfl) (by kernel_rfl) (by kernel_rfl) (by kernel_rfl) (fun _ _ _ h => h) (by rfl) ?hv7x3 hS0 ?h7x3
                case hv7x3 => intro u hSu; clear hSu; go_simp; (try with_reducible rfl)
                (try simp only [Act.put, List.setIfInBounds_toArray, List.set_cons_zero, List.set_cons_succ])
                refine regN_take (i := 3) (d := (some 19)) (v := ?v7x4) (l2 := #[true, true, true, true, false, false, false, false, false, false]) rfl rfl rfl (by kernel_rfl) (by kernel_rfl) (by kernel_rfl) (by kernel_rfl) (fun _ _ _ h => h) (by rfl) ?hv7x4 hS0 ?h7x4
                case hv7x4 => intro u hSu; clear hSu; go_simp; (try with_reducible rfl)
                (try simp only [Act.put, List.setIfInBounds_toArray, List.set_cons_zero, List.set_cons_succ])
                refine regN_take (i := 4) (d := (some 20)) (v := ?v7x5) (l2 := #[true, true, true, true, true, false, false, false, false, false]) rfl rfl rfl (by kernel_rfl) (by kernel_rfl) (by kernel_rfl) (by kernel_rfl) (fun _ _ _ h => h) (by rfl) ?hv7x5 hS0 ?h7x5
                case hv7x5 => intro u hSu; clear hSu; go_simp; (try with_reducible rfl)
                (try simp only [Act.put, List.setIfInBounds_toArray, List.set_cons_zero, List.set_cons_succ])
                refine regN_take (i := 5) (d := (some 21)) (v := ?v7x6) (l2 := #[true, true, true, true, true, true, false, false, false, false]) rfl rfl rfl (by kernel_rfl) (by kernel_rfl) (by kernel_rfl) (by kernel_rfl) (fun _ _ _ h => h) (by rfl) ?hv7x6 hS0 ?h7x6
                case hv7x6 => intro u hSu; clear hSu; go_simp; (try with_reducible rfl)
                (try simp only [Act.put, List.setIfInBounds_toArray, List.set_cons_zero, List.set_cons_succ])
                refine regN_take (i := 6) (d := (some 22)) (v := ?v7x7) (l2 := #[true, true, true, true, true, true, true, false, false, false]) rfl rfl rfl (by kernel_rfl) (by kernel_rfl) (by kernel_rfl) (by kernel_rfl) (fun _ _ _ h => h) (by rfl) ?hv7x7 hS0 ?h7x7
                case hv7x7 => intro u hSu; clear hSu; go_simp; (try with_reducible rfl)
                (try simp only [Act.put, List.setIfInBounds_toArray, List.set_cons_zero, List.set_cons_succ])
                refine regN_ready (rs := [7]) (by kernel_rfl) (by simp) ?_
                refine (AllN.cons (i := 7) (l2 := #[true, true, true, true, true, true, true, true, false, false]) rfl rfl (fun K hK => ?_) AllN.nil)
                go_simp
                refine hK _ _ (fun _ => trivial) ?_
                clear hK K
                (try simp only [Act.put, List.setIfInBounds_toArray, List.set_cons_zero, List.set_cons_succ])
                refine regN_ready (rs := [8]) (by kernel_rfl) (by simp) ?_
                refine (AllN.cons (i := 8) (l2 := #[true, true, true, true, true, true, true, true, true, false]) rfl rfl (fun K hK => ?_) AllN.nil)
                refine step_append_uN (m := 4) (by rfl) _ _ (by rfl) [92, 120, hxC q, hxC r2] (by rfl) (by rfl) (HO.out.below (below_al (Below.refl _ _).drew _)) (by rfl) (newUL _ _ ?e8) (by omega) (by have := HBW.out.size; simp; omega) ?_
                case e8 => simp [fl, uF, dg_one]
                intro A2 c2 w8 hO8 hb8 hg8
                refine hK _ _ (fun _ => trivial) ?_
                clear hK K
                (try simp only [Act.put, List.setIfInBounds_toArray, List.set_cons_zero, List.set_cons_succ])
                refine regN_ready (rs := [9]) (by kernel_rfl) (by simp) ?_
                refine (AllN.cons (i := 9) (l2 := #[true, true, true, true, true, true, true, true, true, true]) rfl rfl (fun K hK => ?_) AllN.nil)
                go_simp
                refine hK _ _ (fun h => absurd rfl h) ?_
                clear hK K
                (try simp only [Act.put, List.setIfInBounds_toArray, List.set_cons_zero, List.set_cons_succ])
                refine regN_done (by kernel_rfl) ?_ _
                have HO8 := Lib.hid hO8
                have HB8 := Lib.hid ((below_al HBW.out.drew _).trans hb8)
                clear hO8 hb8 hg8
                go_wp2
                obtain ⟨g2, cap, hv, _, _⟩ := HO8.out.own.form (by omega)
                obtain rfl : A2 = some ⟨g2, 0, none⟩ := by injection hv
                refine ⟨⟨k + 1, _, _, _, _, by go_num, rfl, by omega, ?_, HO8.out, HB8.out⟩, ?_⟩
                · rw [HT.out, HQ.out]; rfl
                · simp [intOf]; omega
            · have HQ := Lib.hid (show qtC c0 = [c0] by unfold qtC; rw [if_neg (by have := HCC.out; omega), if_neg (by have := HCC.out; omega), if_neg (by have := HCC.out; omega)])
              have h32a : 32 ≤ bt s k := by omega
              have h32b : bt s k ≤ 126 := by omega
              clear h34 h92 h10 h32
              have HNW := Lib.hid (show (fl uF [c0]).toArray = #[.int .u8 (bt s k)] by simp [fl, uF, HCC.out]); go_wp2_with (at_builtin; refine append_uN (m := 1) (by rfl) _ _ (by rfl) [c0] (by rfl) (by rfl) (HO.out.below (below_al (Below.refl _ _) _)) (by rfl) (newUL _ _ HNW.out) (by omega) (by simp; omega) ?_; intro A2 c2 w8 hO8 hb8 hg8; have HO8 := Lib.hid hO8; have HB8 := Lib.hid ((below_al HBW.out _).trans hb8); clear hO8 hb8 hg8)
              obtain ⟨g2, cap, hv, _, _⟩ := HO8.out.own.form (by omega)
              obtain rfl : A2 = some ⟨g2, 0, none⟩ := by injection hv
              refine ⟨⟨k + 1, _, _, _, _, by go_num, rfl, by omega, ?_, HO8.out, HB8.out⟩, ?_⟩
              · rw [HT.out, HQ.out]; rfl
              · simp [intOf]; omega
    · obtain rfl : k = s.size := by omega
      have hn8 : n + 4 ≤ 10000000 := by omega
      clear hln hql
      have HNW := Lib.hid (show (fl uF [34]).toArray = #[.int .u8 34] by rfl); go_wp2_with (first | (at_builtin; refine append_uN (m := 1) (by rfl) _ _ (by rfl) [34] (by rfl) (by rfl) (HO.out.below (below_al (Below.refl _ _) _)) (by rfl) (newUL _ _ HNW.out) (by omega) (by simp; omega) ?_; intro A2 c2 w8 hO8 hb8 hg8; obtain ⟨g2, cap, hv, _, _⟩ := hO8.own.form (by omega); obtain rfl : A2 = some ⟨g2, 0, none⟩ := (by injection hv); have hcv := conv_own hO8; have HO8 := Lib.hid hO8; have HB8 := Lib.hid ((below_al HBW.out _).trans hb8); clear hO8 hb8 hg8))
      go_ret
      exact ⟨by rw [List.take_of_length_le (by omega)]; rfl, HB8.out⟩

end Go.Proofs.YtfpdnhbbbadegaaGreatDoor
