/- Layer 53, the reference: Signs, operator. (gen/tf.py) -/
import Derived.Test.YtfpdnhbbbadegaaGreatDoorTb
import Derived.Test.YtfpdnhbbbadegaaGreatDoorReg
namespace Go.Proofs.YtfpdnhbbbadegaaGreatDoor
open Go.ChangeShapes Go.WideShapes Go.ChangeAt Go.RowKit Go.PlainAid
set_option linter.unusedSimpArgs false
set_option linter.unusedVariables false

theorem rsigns_any (w : World) : Calls Tryz.prog 55 #[] w fun e w' => e = .returned (.slice (some ⟨w.heap.size, 0, none⟩) 30 30) ∧ w' = w.alloc (strO opL) := by
  go_enter Tryz.func55, Tryz.ntmps55
  go_wp2
  go_ret
  exact ⟨rfl, rfl⟩
theorem op_cells (w : World) : ∀ (k : Nat) (x : List UInt8), opL[k]? = some x → (w.alloc (strO opL)).cell? ⟨w.heap.size, k, none⟩ = some (.string (bsB x)) := by
  intro k x hk
  have h := World.alloc_heap_new w (strO opL)
  generalize w.alloc (strO opL) = W at h ⊢
  unfold strO at h
  simp only [World.cell?, h]
  simp [hk]
theorem op_len3 : ∀ o ∈ opL, o.length ≤ 3 := by decide
theorem scOp_yes {l x : List UInt8} (h : opL.find? (·.isPrefixOf l) = some x) : scOp l = some ⟨6, x, 0, x.length⟩ := by unfold scOp; rw [h]; rfl
theorem scOp_no {l : List UInt8} (h : opL.find? (·.isPrefixOf l) = none) : scOp l = none := by unfold scOp; rw [h]; rfl
set_option maxRecDepth 100000 in
set_option maxHeartbeats 4000000 in
theorem roper_any (s : ByteArray) (a : Nat) (hs : s.size ≤ 1000000) (ha : a < s.size) (w : World) :
    Calls Tryz.prog 48 #[.string s, .int .i64 (a : Int)] w fun e w' => (∃ v, e = .returned v ∧ RsV a (scOp (s.data.toList.drop a)) v) ∧ Below w.heap.size w w' := by
  obtain ⟨l, hl⟩ : ∃ l, s.data.toList.drop a = l := ⟨_, rfl⟩
  have HL := Lib.hid hl
  rw [hl]
  have HZ := Lib.hid (World.alloc_heap_new w (tkO (.int .i64 0) (.string ⟨#[]⟩) (.int .i64 0) (.int .i64 0)))
  have HB := Lib.hid (below_al (Below.refl w.heap.size w) (tkO (.int .i64 0) (.string ⟨#[]⟩) (.int .i64 0) (.int .i64 0)))
  have hsz1 : (w.alloc (tkO (.int .i64 0) (.string ⟨#[]⟩) (.int .i64 0) (.int .i64 0))).heap.size = w.heap.size + 1 := World.size_alloc _ _
  unfold tkO at HZ HB hsz1
  clear hl
  go_enter Tryz.func48, Tryz.ntmps48
  go_upto_region 1 with fail
  generalize w.alloc (.cells #[.int .i64 0, .string ⟨#[]⟩, .int .i64 0, .int .i64 0] 27) = W1 at HZ HB hsz1 ⊢
  have HZ2 := Lib.hid (laid_old (o' := strO opL) HZ.out)
  have HB2 := Lib.hid (below_al HB.out (strO opL))
  have HOC := Lib.hid (op_cells W1)
  have HNE := Lib.hid (show W1.heap.size ≠ w.heap.size by omega)
  clear hsz1
  go_wp2_with (go_at_call 55; refine (rsigns_any _).mono ?_; rintro e w9 ⟨rfl, rfl⟩)
  generalize W1.alloc (strO opL) = W2 at HZ2 HB2 HOC ⊢
  generalize W1.heap.size = g at HOC HNE ⊢
  go_loopw [8] (fun i wr => ∃ k : Nat, k ≤ 30 ∧ i = .int .i64 k ∧ opL.find? (·.isPrefixOf l) = (opL.drop k).find? (·.isPrefixOf l) ∧ wr = W2) (fun i _ => 30 - (intOf i).toNat)
  case atStart => exact ⟨0, Nat.zero_le _, rfl, by rw [List.drop_zero], rfl⟩
  case round =>
    obtain ⟨k, hk, rfl, hf, rfl⟩ := hrel
    have HF := Lib.hid hf
    clear hf
    by_cases hlt : k < 30
    · have hkl : k < opL.length := hlt
      obtain ⟨x, hx⟩ : ∃ x, opL[k] = x := ⟨_, rfl⟩
      have hxs : opL[k]? = some x := by rw [List.getElem?_eq_getElem hkl, hx]
      have hck := HOC.out k x hxs
      have hd : opL.drop k = x :: opL.drop (k + 1) := by rw [← hx]; exact List.drop_eq_getElem_cons hkl
      have h3 := op_len3 x (List.mem_of_getElem? hxs)
      have HD := Lib.hid hd
      obtain ⟨B, hB⟩ : ∃ B, bsB x = B := ⟨_, rfl⟩
      have hBd : B.data.toList = x := by rw [← hB, bsB_data]
      have hBz : B.size ≤ 3 := by rw [← hB, bsB_size]; exact h3
      have hBl : B.size = x.length := by rw [← hB, bsB_size]
      rw [hB] at hck
      have HBL := Lib.hid hBl
      have HBE := Lib.hid hB
      have KI := Lib.hid (fun W => (by have h := ris_any s B a (by omega) (by omega) (by omega) W; rw [hBd, HL.out] at h; exact h : Calls Tryz.prog 42 #[.string s, .int .i64 (a : Int), .string B] W fun e w' => e = .returned (.bool (x.isPrefixOf l)) ∧ W = w'))
      have hk0 : (0 : Int) ≤ (k : Int) := by omega
      have hk1 : (k : Int) < 30 := by omega
      clear hx hxs hd h3 hB hBd hBl
      cases hp : x.isPrefixOf l with
      | false =>
        rw [hp] at KI
        have HN := Lib.hid (show opL.find? (·.isPrefixOf l) = (opL.drop (k + 1)).find? (·.isPrefixOf l) by rw [HF.out, HD.out, List.find?_cons_of_neg (by rw [hp]; decide)])
        clear hp
        go_wp2_with (go_at_call 42; refine (KI.out _).mono ?_; rintro e w9 ⟨rfl, rfl⟩)
        exact ⟨⟨k + 1, by omega, by go_num, HN.out, trivial⟩, by simp [intOf]; omega⟩
      | true =>
        rw [hp] at KI
        have HV := Lib.hid (show RsV a (scOp l) (.tuple #[.agg #[.int .i64 6, .string B, .int .i64 0, .int .i64 a], .int .i64 (IntKind.i64.wrap ((a : Int) + (B.size : Int))), .bool true]) by
          rw [show IntKind.i64.wrap ((a : Int) + (B.size : Int)) = (a : Int) + (B.size : Int) by simp [IntKind.wrap, IntKind.bits, IntKind.signed]; omega]
          rw [scOp_yes (x := x) (by rw [HF.out, HD.out, List.find?_cons_of_pos (by rw [hp])])]
          exact RsV.yes rfl HBE.out.symm rfl rfl (by rw [HBL.out]; simp))
        clear hp
        obtain ⟨⟨z0, z1, z2, z3⟩, fz, yz⟩ := four_cellsT HZ2.out
        have KS := Lib.hid (show ((((wr.drew.setCell ⟨w.heap.size, 0, none⟩ (.int .i64 6)).setCell ⟨w.heap.size, 1, none⟩ (.string B)).setCell ⟨w.heap.size, 2, none⟩ (.int .i64 0)).setCell ⟨w.heap.size, 3, none⟩ (.int .i64 a)).cell? ⟨g, k, none⟩ = some (.string B) by
          have hn := HNE.out
          rw [World.cell?_setCell_other _ _ _ _ (fun e => by injection e; omega), World.cell?_setCell_other _ _ _ _ (fun e => by injection e; omega), World.cell?_setCell_other _ _ _ _ (fun e => by injection e; omega), World.cell?_setCell_other _ _ _ _ (fun e => by injection e; omega)]
          exact hck)
        go_upto_region 6 with (go_at_call 42; refine (KI.out _).mono ?_; rintro e w9 ⟨rfl, rfl⟩)
        refine regN_start (N := 15) (S := (fun W => W.cell? ⟨g, k, none⟩ = some (.string B))) (by kernel_rfl) ?_
        change wpAnyN _ _ _ _ _ _ _ #[false, false, false, false, false, false, false, false, false, false, false, false, false, false, false, false] _ (World.drew _)
        have hS0 := hck
        refine regN_take (i := 0) (d := (some 23)) (v := ?v6x1) (l2 := #[true, false, false, false, false, false, false, false, false, false, false, false, false, false, false, false]) rfl rfl rfl (by kernel_rfl) (by kernel_rfl) (by kernel_rfl) (by kernel_rfl) (fun _ _ _ h => h) (by rfl) ?hv6x1 hS0 ?h6x1
        case hv6x1 => intro u hSu; clear hSu; go_simp; (try with_reducible rfl)
        (try simp only [Act.put, List.setIfInBounds_toArray, List.set_cons_zero, List.set_cons_succ])
        refine regN_take (i := 1) (d := (some 24)) (v := ?v6x2) (l2 := #[true, true, false, false, false, false, false, false, false, false, false, false, false, false, false, false]) rfl rfl rfl (by kernel_rfl) (by kernel_rfl) (by kernel_rfl) (by kernel_rfl) (fun _ _ _ h => h) (by rfl) ?hv6x2 hS0 ?h6x2
        case hv6x2 => intro u hSu; clear hSu; go_simp; (try with_reducible rfl)
        (try simp only [Act.put, List.setIfInBounds_toArray, List.set_cons_zero, List.set_cons_succ])
        refine regN_take (i := 2) (d := (some 25)) (v := ?v6x3) (l2 := #[true, true, true, false, false, false, false, false, false, false, false, false, false, false, false, false]) rfl rfl rfl (by kernel_rfl) (by kernel_rfl) (by kernel_rfl) (by kernel_rfl) (fun _ _ _ h => h) (by rfl) ?hv6x3 hS0 ?h6x3
        case hv6x3 => intro u hSu; clear hSu; go_simp; (try with_reducible rfl)
        (try simp only [Act.put, List.setIfInBounds_toArray, List.set_cons_zero, List.set_cons_succ])
        refine regN_take (i := 3) (d := (some 26)) (v := ?v6x4) (l2 := #[true, true, true, true, false, false, false, false, false, false, false, false, false, false, false, false]) rfl rfl rfl (by kernel_rfl) (by kernel_rfl) (by kernel_rfl) (by kernel_rfl) (fun _ _ _ h => h) (by rfl) ?hv6x4 hS0 ?h6x4
        case hv6x4 => intro u hSu; (try dsimp only at hSu); (try go_split_ands); go_simp; (try with_reducible rfl)
        (try simp only [Act.put, List.setIfInBounds_toArray, List.set_cons_zero, List.set_cons_succ])
        refine regN_take (i := 4) (d := (some 27)) (v := ?v6x5) (l2 := #[true, true, true, true, true, false, false, false, false, false, false, false, false, false, false, false]) rfl rfl rfl (by kernel_rfl) (by kernel_rfl) (by kernel_rfl) (by kernel_rfl) (fun _ _ _ h => h) (by rfl) ?hv6x5 hS0 ?h6x5
        case hv6x5 => intro u hSu; clear hSu; go_simp; (try with_reducible rfl)
        (try simp only [Act.put, List.setIfInBounds_toArray, List.set_cons_zero, List.set_cons_succ])
        refine regN_take (i := 5) (d := (some 28)) (v := ?v6x6) (l2 := #[true, true, true, true, true, true, false, false, false, false, false, false, false, false, false, false]) rfl rfl rfl (by kernel_rfl) (by kernel_rfl) (by kernel_rfl) (by kernel_rfl) (fun _ _ _ h => h) (by rfl) ?hv6x6 hS0 ?h6x6
        case hv6x6 => intro u hSu; clear hSu; go_simp; (try with_reducible rfl)
        (try simp only [Act.put, List.setIfInBounds_toArray, List.set_cons_zero, List.set_cons_succ])
        refine regN_take (i := 6) (d := (some 29)) (v := ?v6x7) (l2 := #[true, true, true, true, true, true, true, false, false, false, false, false, false, false, false, false]) rfl rfl rfl (by kernel_rfl) (by kernel_rfl) (by kernel_rfl) (by kernel_rfl) (fun _ _ _ h => h) (by rfl) ?hv6x7 hS0 ?h6x7
        case hv6x7 => intro u hSu; clear hSu; go_simp; (try with_reducible rfl)
        (try simp only [Act.put, List.setIfInBounds_toArray, List.set_cons_zero, List.set_cons_succ])
        refine regN_take (i := 7) (d := (some 30)) (v := ?v6x8) (l2 := #[true, true, true, true, true, true, true, true, false, false, false, false, false, false, false, false]) rfl rfl rfl (by kernel_rfl) (by kernel_rfl) (by kernel_rfl) (by kernel_rfl) (fun _ _ _ h => h) (by rfl) ?hv6x8 hS0 ?h6x8
        case hv6x8 => intro u hSu; clear hSu; go_simp; (try with_reducible rfl)
        (try simp only [Act.put, List.setIfInBounds_toArray, List.set_cons_zero, List.set_cons_succ])
        refine regN_take (i := 8) (d := (some 31)) (v := ?v6x9) (l2 := #[true, true, true, true, true, true, true, true, true, false, false, false, false, false, false, false]) rfl rfl rfl (by kernel_rfl) (by kernel_rfl) (by kernel_rfl) (by kernel_rfl) (fun _ _ _ h => h) (by rfl) ?hv6x9 hS0 ?h6x9
        case hv6x9 => intro u hSu; clear hSu; go_simp; (try with_reducible rfl)
        (try simp only [Act.put, List.setIfInBounds_toArray, List.set_cons_zero, List.set_cons_succ])
        refine regN_take (i := 9) (d := (some 32)) (v := ?v6x10) (l2 := #[true, true, true, true, true, true, true, true, true, true, false, false, false, false, false, false]) rfl rfl rfl (by kernel_rfl) (by kernel_rfl) (by kernel_rfl) (by kernel_rfl) (fun _ _ _ h => h) (by rfl) ?hv6x10 hS0 ?h6x10
        case hv6x10 => intro u hSu; clear hSu; go_simp; (try with_reducible rfl)
        (try simp only [Act.put, List.setIfInBounds_toArray, List.set_cons_zero, List.set_cons_succ])
        refine regN_take (i := 10) (d := (some 33)) (v := ?v6x11) (l2 := #[true, true, true, true, true, true, true, true, true, true, true, false, false, false, false, false]) rfl rfl rfl (by kernel_rfl) (by kernel_rfl) (by kernel_rfl) (by kernel_rfl) (fun _ _ _ h => h) (by rfl) ?hv6x11 hS0 ?h6x11
        case hv6x11 => intro u hSu; (try dsimp only at hSu); (try go_split_ands); go_simp; (try with_reducible rfl)
        (try simp only [Act.put, List.setIfInBounds_toArray, List.set_cons_zero, List.set_cons_succ])
        refine regN_take (i := 11) (d := (some 34)) (v := ?v6x12) (l2 := #[true, true, true, true, true, true, true, true, true, true, true, true, false, false, false, false]) rfl rfl rfl (by kernel_rfl) (by kernel_rfl) (by kernel_rfl) (by kernel_rfl) (fun _ _ _ h => h) (by rfl) ?hv6x12 hS0 ?h6x12
        case hv6x12 => intro u hSu; clear hSu; go_simp; (try with_reducible rfl)
        (try simp only [Act.put, List.setIfInBounds_toArray, List.set_cons_zero, List.set_cons_succ])
        refine regN_take (i := 12) (d := (some 35)) (v := ?v6x13) (l2 := #[true, true, true, true, true, true, true, true, true, true, true, true, true, false, false, false]) rfl rfl rfl (by kernel_rfl) (by kernel_rfl) (by kernel_rfl) (by kernel_rfl) (fun _ _ _ h => h) (by rfl) ?hv6x13 hS0 ?h6x13
        case hv6x13 => intro u hSu; clear hSu; go_simp; (try with_reducible rfl)
        (try simp only [Act.put, List.setIfInBounds_toArray, List.set_cons_zero, List.set_cons_succ])
        refine regN_ready (rs := [13]) (by kernel_rfl) (by simp) ?_
        refine (AllN.cons (i := 13) (l2 := #[true, true, true, true, true, true, true, true, true, true, true, true, true, true, false, false]) rfl rfl (fun K hK => ?_) AllN.nil)
        go_simp
        have hS1 : ((fun W => W.cell? ⟨g, k, none⟩ = some (.string B)) : World → Prop) _ := (KS.out : (fun W => W.cell? ⟨g, k, none⟩ = some (.string B)) ((((wr.drew.setCell ⟨w.heap.size, 0, none⟩ (.int .i64 6)).setCell ⟨w.heap.size, 1, none⟩ (.string B)).setCell ⟨w.heap.size, 2, none⟩ (.int .i64 0)).setCell ⟨w.heap.size, 3, none⟩ (.int .i64 a)))
        refine hK _ _ (fun _ => hS1) ?_
        clear hK K
        (try simp only [Act.put, List.setIfInBounds_toArray, List.set_cons_zero, List.set_cons_succ])
        refine regN_ready (rs := [14]) (by kernel_rfl) (by simp) ?_
        refine (AllN.cons (i := 14) (l2 := #[true, true, true, true, true, true, true, true, true, true, true, true, true, true, true, false]) rfl rfl (fun K hK => ?_) AllN.nil)
        go_simp
        have hS2 : ((fun W => W.cell? ⟨g, k, none⟩ = some (.string B)) : World → Prop) _ := (KS.out : (fun W => W.cell? ⟨g, k, none⟩ = some (.string B)) ((((wr.drew.setCell ⟨w.heap.size, 0, none⟩ (.int .i64 6)).setCell ⟨w.heap.size, 1, none⟩ (.string B)).setCell ⟨w.heap.size, 2, none⟩ (.int .i64 0)).setCell ⟨w.heap.size, 3, none⟩ (.int .i64 a)))
        refine hK _ _ (fun _ => hS2) ?_
        clear hK K
        (try simp only [Act.put, List.setIfInBounds_toArray, List.set_cons_zero, List.set_cons_succ])
        refine regN_ready (rs := [15]) (by kernel_rfl) (by simp) ?_
        refine (AllN.cons (i := 15) (l2 := #[true, true, true, true, true, true, true, true, true, true, true, true, true, true, true, true]) rfl rfl (fun K hK => ?_) AllN.nil)
        go_simp
        refine hK _ _ (fun h => absurd rfl h) ?_
        clear hK K
        (try simp only [Act.put, List.setIfInBounds_toArray, List.set_cons_zero, List.set_cons_succ])
        refine regN_done (by kernel_rfl) ?_ _
        go_wp2
        refine bodyPost_ret (tk_ret3 rfl rfl (set_fourT (w := wr.drew) HZ2.out)) rfl ?_
        exact ⟨⟨_, rfl, HV.out⟩, four_belowT (below_dr HB2.out 1) (Nat.le_refl _)⟩
    · obtain rfl : k = 30 := by omega
      have HV := Lib.hid (show RsV a (scOp l) (.tuple #[.agg #[.int .i64 0, .string ⟨#[]⟩, .int .i64 0, .int .i64 0], .int .i64 0, .bool false]) from RsV.no (scOp_no (HF.out.trans rfl)))
      obtain ⟨⟨z0, z1, z2, z3⟩, fz, yz⟩ := four_cellsT HZ2.out
      go_wp2
      refine bodyPost_ret (tk_ret3 rfl rfl (set_fourT HZ2.out)) rfl ?_
      exact ⟨⟨_, rfl, HV.out⟩, four_belowT HB2.out (Nat.le_refl _)⟩

end Go.Proofs.YtfpdnhbbbadegaaGreatDoor
