/- Layer 16: the reference's Rising. -/
import Derived.Test.YthifmcnemeiphaaDoorJb
import Derived.Test.YthifmcnemeiphaaDoorReg
namespace Go.Proofs.YthifmcnemeiphaaDoor
open Go.ChangeShapes Go.WideShapes Go.ChangeAt Go.RowKit Go.PlainAid Go.Maps
set_option linter.unusedSimpArgs false
set_option linter.unusedVariables false

theorem own_lit0T {w : World} {B : Nat} (hB : B ≤ w.heap.size) : (w.alloc (.cells #[] 9)).ownsRow B 9 1 (.slice (some ⟨w.heap.size, 0, none⟩) 0 0) 0 (strs []) :=
  ⟨rfl, Or.inr ⟨w.heap.size, 0, #[], rfl, hB, World.alloc_heap_new _ _, Nat.zero_le _, Nat.zero_le _, rfl, rfl⟩⟩
theorem inS_len (R : List ByteArray) (s : ByteArray) : (inS R s).length ≤ R.length + 1 := by
  unfold inS
  split
  · omega
  · rw [List.length_append, List.length_append, List.length_take, List.length_drop]
    simp; omega
theorem rsL_len {L : List ByteArray} : ∀ i, (rsL (L.take i)).length ≤ i
  | 0 => Nat.le_refl _
  | i + 1 => by
    have ih := rsL_len (L := L) i
    cases h : L[i]? with
    | none =>
      have : L.take (i + 1) = L.take i := by rw [List.take_add_one, h]; simp
      rw [this]; omega
    | some s =>
      rw [rsL_step h]
      have := inS_len (rsL (L.take i)) s
      omega
/-- the rows of the loop -/
structure RisInv (L : List ByteArray) (w : World) (i : Nat) (v : Value) (wr : World) : Prop where
  ex : ∃ R m g c, rsL (L.take i) = R ∧ R.length = m ∧ v = .slice (some ⟨g, 0, none⟩) m c ∧ wr.ownsRow w.heap.size 9 1 (.slice (some ⟨g, 0, none⟩) m c) m (strs R)
  bel : Below w.heap.size w wr
theorem SRow.take {w : World} {B : Nat} {A : Option Addr} {L : List ByteArray} (h : SRow w B A L) (k : Nat) : SRow w B A (L.take k) := by
  rcases h with h | ⟨g, o, hA, hg, hc⟩
  · exact Or.inl (by rw [h]; simp)
  · refine Or.inr ⟨g, o, hA, hg, fun j x hj => hc j x ?_⟩
    rw [List.getElem?_take] at hj
    split at hj
    · exact hj
    · cases hj
theorem SRow.drop {w : World} {B g o : Nat} {L : List ByteArray} (h : SRow w B (some ⟨g, o, none⟩) L) (k : Nat) : SRow w B (some ⟨g, o + k, none⟩) (L.drop k) := by
  rcases h with h | ⟨g', o', hA, hg, hc⟩
  · exact Or.inl (by rw [h]; simp)
  · injection hA with hA
    injection hA with h1 h2
    subst h1 h2
    refine Or.inr ⟨g, o + k, rfl, hg, fun j x hj => ?_⟩
    rw [List.getElem?_drop] at hj
    rw [Nat.add_assoc]
    exact hc _ x hj
set_option maxRecDepth 100000 in
set_option maxHeartbeats 4000000 in
theorem rising_any (A : Option Addr) (n c : Nat) (L : List ByteArray) (w : World) (hn : L.length = n) (hc : n ≤ 1000000) (h : SRow w w.heap.size A L) :
    Calls Tryd.prog 62 #[.slice A n c] w (StrOwn w (rsL L)) := by
  have HL := Lib.hid h
  have HN := Lib.hid hn
  clear h hn
  have hB : Below w.heap.size w w := Below.refl _ _
  have HO0 := Lib.hid (own_lit0T (w := w) (Nat.le_refl _))
  have HB0 := Lib.hid (below_al (Below.refl w.heap.size w) (.cells #[] 9))
  go_enter Tryd.func62, Tryd.ntmps62
  go_wp2
  go_loopw [3, 4] (fun v z wr => ∃ i : Nat, i ≤ n ∧ z = .int .i64 i ∧ RisInv L w i v wr) (fun _ z _ => n - (intOf z).toNat)
  case atStart => exact ⟨0, Nat.zero_le _, rfl, ⟨⟨[], 0, w.heap.size, 0, rfl, rfl, rfl, HO0.out⟩, HB0.out⟩⟩
  case round =>
    obtain ⟨i, hi, rfl, ⟨⟨R, m, g, d, hR, hm, rfl, hown⟩, hbel⟩⟩ := hrel
    have HR := Lib.hid hR
    have hmi : m ≤ i := by rw [← hm, ← hR]; exact rsL_len i
    have HM := Lib.hid hm
    have HO := Lib.hid hown
    have HB := Lib.hid hbel
    clear hR hown hbel HO0 HB0 hm
    by_cases hil : i < n
    · have hiL : i < L.length := by rw [HN.out]; exact hil
      obtain ⟨f, o, rfl, hf, hcs⟩ := HL.out.at (by omega)
      have hci := hcs i hiL
      have HX := Lib.hid (show L[i]? = some L[i] from List.getElem?_eq_getElem hiL)
      clear hcs
      generalize L[i] = s at hci HX
      have HCI := Lib.hid hci
      have HST := Lib.hid (show rsL (L.take (i + 1)) = inS R s by rw [rsL_step HX.out, HR.out])
      obtain ⟨q, hq⟩ : ∃ q, qI R s = q := ⟨_, rfl⟩
      have HQ := Lib.hid hq
      have hqm : q ≤ m := by rw [← hq, ← HM.out]; exact qI_le R s
      clear hci hq
      have cell : ∀ (W : World) (h : W.ownsRow w.heap.size 9 1 (.slice (some ⟨g, 0, none⟩) m d) m (strs R)) (k : Nat) (hk : k < R.length), W.cell? ⟨g, k, none⟩ = some (.string R[k]) := by
        intro W h k hk
        obtain ⟨_, hq1, k1, _⟩ := str_at (j := k) h hk HM.out
        obtain rfl : g = _ := by injection hq1 with h; injection h
        exact k1
      have HCE := Lib.hid cell
      clear cell
      go_wp2
      go_loopw [5] (fun jv wr => ∃ k : Nat, jv = .int .i64 k ∧ k ≤ q ∧ Hid (Below w.heap.size w wr) ∧ Hid (wr.ownsRow w.heap.size 9 1 (.slice (some ⟨g, 0, none⟩) m d) m (strs R))) (fun jv _ => q - (intOf jv).toNat)
      case atStart => exact ⟨0, rfl, Nat.zero_le _, HB, HO⟩
      case round =>
        obtain ⟨k, rfl, hk, HBi, HOi⟩ := hrel
        clear HB HO
        have hci := (HBi.out.cell (p := ⟨f, o + i, none⟩) hf).trans HCI.out
        go_upto_region 6 with fail
        by_cases hkq : k < q
        · have hkm : k < m := by omega
          obtain ⟨hkR, hlx⟩ := qI_lt (R := R) (s := s) (k := k) (by rw [HQ.out]; exact hkq)
          have ck := HCE.out wr HOi.out k hkR
          generalize R[k] = t at ck hlx
          have e5 : (k : Int) < (m : Int) := by omega
          have e6 : (i : Int) < (n : Int) := by omega
          have e7 : decide ((k : Int) < (m : Int)) = true := decide_eq_true e5
          have e8 : decide (k < m) = true := decide_eq_true hkm
          refine regN_start (N := 14) (S := (fun W' => W'.cell? ⟨g, k, none⟩ = some (.string t) ∧ W'.cell? ⟨f, o + i, none⟩ = some (.string s))) (by kernel_rfl) ?_
          change wpAnyN _ _ _ _ _ _ _ #[false, false, false, false, false, false, false, false, false, false, false, false, false, false, false] _ (World.drew _)
          have hS0 := (show (fun W' => W'.cell? ⟨g, k, none⟩ = some (.string t) ∧ W'.cell? ⟨f, o + i, none⟩ = some (.string s)) wr.drew from ⟨ck, hci⟩)
          refine regN_takeC [4, 3] (i := 0) (d := (some 14)) (v := ?v6a1) (l2 := #[true, false, false, false, false, false, false, false, false, false, false, false, false, false, false]) rfl rfl rfl (by kernel_rfl) (by kernel_rfl) (by kernel_rfl) (by kernel_rfl) (fun _ _ _ h => h) (by rfl) ?hv6a1 hS0 ?h6a1
          case hv6a1 => intro u hSu; clear hSu; go_simp; (try with_reducible rfl)
          (try simp only [Act.put, List.setIfInBounds_toArray, List.set_cons_zero, List.set_cons_succ])
          refine regN_takeC [4, 3, 2] (i := 1) (d := (some 15)) (v := ?v6a2) (l2 := #[true, true, false, false, false, false, false, false, false, false, false, false, false, false, false]) rfl rfl rfl (by kernel_rfl) (by kernel_rfl) (by kernel_rfl) (by kernel_rfl) (fun _ _ _ h => h) (by rfl) ?hv6a2 hS0 ?h6a2
          case hv6a2 => intro u hSu; clear hSu; go_simp; (try with_reducible rfl)
          (try simp only [Act.put, List.setIfInBounds_toArray, List.set_cons_zero, List.set_cons_succ])
          refine regN_takeC [4, 3] (i := 2) (d := (some 16)) (v := ?v6a3) (l2 := #[true, true, true, false, false, false, false, false, false, false, false, false, false, false, false]) rfl rfl rfl (by kernel_rfl) (by kernel_rfl) (by kernel_rfl) (by kernel_rfl) (fun _ _ _ h => h) (by rfl) ?hv6a3 hS0 ?h6a3
          case hv6a3 => intro u hSu; clear hSu; go_simp; (try with_reducible rfl)
          (try simp only [Act.put, List.setIfInBounds_toArray, List.set_cons_zero, List.set_cons_succ])
          refine regN_takeC [4] (i := 3) (d := (some 17)) (v := ?v6a4) (l2 := #[true, true, true, true, false, false, false, false, false, false, false, false, false, false, false]) rfl rfl rfl (by kernel_rfl) (by kernel_rfl) (by kernel_rfl) (by kernel_rfl) (fun _ _ _ h => h) (by rfl) ?hv6a4 hS0 ?h6a4
          case hv6a4 => intro u hSu; clear hSu; go_simp; (try with_reducible rfl)
          (try simp only [Act.put, List.setIfInBounds_toArray, List.set_cons_zero, List.set_cons_succ])
          refine regN_take (i := 4) (d := (some 18)) (v := ?v6a5) (l2 := #[true, true, true, true, true, false, false, false, false, false, false, false, false, false, false]) rfl rfl rfl (by kernel_rfl) (by kernel_rfl) (by kernel_rfl) (by kernel_rfl) (fun _ _ _ h => h) (by rfl) ?hv6a5 hS0 ?h6a5
          case hv6a5 => intro u hSu; clear hSu; go_simp; (try with_reducible rfl)
          (try simp only [Act.put, List.setIfInBounds_toArray, List.set_cons_zero, List.set_cons_succ])
          refine regN_takeC [13, 8, 7] (i := 5) (d := (some 19)) (v := ?v6a6) (l2 := #[true, true, true, true, true, true, false, false, false, false, false, false, false, false, false]) rfl rfl rfl (by kernel_rfl) (by kernel_rfl) (by kernel_rfl) (by kernel_rfl) (fun _ _ _ h => h) (by rfl) ?hv6a6 hS0 ?h6a6
          case hv6a6 => intro u hSu; clear hSu; go_simp; (try with_reducible rfl)
          (try simp only [Act.put, List.setIfInBounds_toArray, List.set_cons_zero, List.set_cons_succ])
          refine regN_takeC [13, 8, 7] (i := 6) (d := (some 20)) (v := ?v6a7) (l2 := #[true, true, true, true, true, true, true, false, false, false, false, false, false, false, false]) rfl rfl rfl (by kernel_rfl) (by kernel_rfl) (by kernel_rfl) (by kernel_rfl) (fun _ _ _ h => h) (by rfl) ?hv6a7 hS0 ?h6a7
          case hv6a7 => intro u hSu; clear hSu; go_simp; (try with_reducible rfl)
          (try simp only [Act.put, List.setIfInBounds_toArray, List.set_cons_zero, List.set_cons_succ])
          refine regN_takeC [13, 8] (i := 7) (d := (some 21)) (v := ?v6a8) (l2 := #[true, true, true, true, true, true, true, true, false, false, false, false, false, false, false]) rfl rfl rfl (by kernel_rfl) (by kernel_rfl) (by kernel_rfl) (by kernel_rfl) (fun _ _ _ h => h) (by rfl) ?hv6a8 hS0 ?h6a8
          case hv6a8 => intro u hSu; clear hSu; go_simp; (try with_reducible rfl)
          (try simp only [Act.put, List.setIfInBounds_toArray, List.set_cons_zero, List.set_cons_succ])
          refine regN_takeC [13] (i := 8) (d := (some 22)) (v := ?v6a9) (l2 := #[true, true, true, true, true, true, true, true, true, false, false, false, false, false, false]) rfl rfl rfl (by kernel_rfl) (by kernel_rfl) (by kernel_rfl) (by kernel_rfl) (fun _ _ _ h => h) (by rfl) ?hv6a9 hS0 ?h6a9
          case hv6a9 => intro u hSu; (try dsimp only at hSu); (try go_split_ands); go_simp; (try with_reducible rfl)
          (try simp only [Act.put, List.setIfInBounds_toArray, List.set_cons_zero, List.set_cons_succ])
          refine regN_takeC [13, 12, 11] (i := 9) (d := (some 23)) (v := ?v6a10) (l2 := #[true, true, true, true, true, true, true, true, true, true, false, false, false, false, false]) rfl rfl rfl (by kernel_rfl) (by kernel_rfl) (by kernel_rfl) (by kernel_rfl) (fun _ _ _ h => h) (by rfl) ?hv6a10 hS0 ?h6a10
          case hv6a10 => intro u hSu; clear hSu; go_simp; (try with_reducible rfl)
          (try simp only [Act.put, List.setIfInBounds_toArray, List.set_cons_zero, List.set_cons_succ])
          refine regN_takeC [13, 12, 11] (i := 10) (d := (some 24)) (v := ?v6a11) (l2 := #[true, true, true, true, true, true, true, true, true, true, true, false, false, false, false]) rfl rfl rfl (by kernel_rfl) (by kernel_rfl) (by kernel_rfl) (by kernel_rfl) (fun _ _ _ h => h) (by rfl) ?hv6a11 hS0 ?h6a11
          case hv6a11 => intro u hSu; clear hSu; go_simp; (try with_reducible rfl)
          (try simp only [Act.put, List.setIfInBounds_toArray, List.set_cons_zero, List.set_cons_succ])
          refine regN_takeC [13, 12] (i := 11) (d := (some 25)) (v := ?v6a12) (l2 := #[true, true, true, true, true, true, true, true, true, true, true, true, false, false, false]) rfl rfl rfl (by kernel_rfl) (by kernel_rfl) (by kernel_rfl) (by kernel_rfl) (fun _ _ _ h => h) (by rfl) ?hv6a12 hS0 ?h6a12
          case hv6a12 => intro u hSu; clear hSu; go_simp; (try with_reducible rfl)
          (try simp only [Act.put, List.setIfInBounds_toArray, List.set_cons_zero, List.set_cons_succ])
          refine regN_takeC [13] (i := 12) (d := (some 26)) (v := ?v6a13) (l2 := #[true, true, true, true, true, true, true, true, true, true, true, true, true, false, false]) rfl rfl rfl (by kernel_rfl) (by kernel_rfl) (by kernel_rfl) (by kernel_rfl) (fun _ _ _ h => h) (by rfl) ?hv6a13 hS0 ?h6a13
          case hv6a13 => intro u hSu; (try dsimp only at hSu); (try go_split_ands); go_simp; (try with_reducible rfl)
          (try simp only [Act.put, List.setIfInBounds_toArray, List.set_cons_zero, List.set_cons_succ])
          refine regN_take (i := 13) (d := (some 27)) (v := ?v6a14) (l2 := #[true, true, true, true, true, true, true, true, true, true, true, true, true, true, false]) rfl rfl rfl (by kernel_rfl) (by kernel_rfl) (by kernel_rfl) (by kernel_rfl) (fun _ _ _ h => h) (by rfl) ?hv6a14 hS0 ?h6a14
          case hv6a14 => intro u hSu; clear hSu; go_simp; (try with_reducible rfl)
          (try simp only [Act.put, List.setIfInBounds_toArray, List.set_cons_zero, List.set_cons_succ])
          refine regN_ready (rs := [14]) (by kernel_rfl) (by simp) ?_
          refine (AllN.cons (i := 14) (l2 := #[true, true, true, true, true, true, true, true, true, true, true, true, true, true, true]) rfl rfl (fun K hK => ?_) AllN.nil)
          go_simp
          refine hK _ _ (fun h => absurd rfl h) ?_
          clear hK K
          (try simp only [Act.put, List.setIfInBounds_toArray, List.set_cons_zero, List.set_cons_succ])
          refine regN_done (by kernel_rfl) ?_ _
          have HBN := Lib.hid (show Below w.heap.size w wr.drew from HBi.out.drew)
          have HON := Lib.hid (show wr.drew.ownsRow w.heap.size 9 1 (.slice (some ⟨g, 0, none⟩) m d) m (strs R) from HOi.out)
          go_wp2
          go_roundw
          case rel => exact ⟨k + 1, by go_num, by omega, HBN, HON⟩
          case measure => simp [intOf] <;> omega
        · obtain rfl : k = q := by omega
          by_cases hqm2 : k < m
          · have hkR : k < R.length := by rw [HM.out]; exact hqm2
            have hlx : Op.bytesLess R[k].toList s.toList = false := by
              have := qI_at (R := R) (s := s) (by rw [HQ.out]; exact hkR)
              simp only [HQ.out] at this
              exact this
            have ck := HCE.out wr HOi.out k hkR
            obtain ⟨t, ht⟩ : ∃ t, R[k] = t := ⟨_, rfl⟩
            rw [ht] at ck hlx
            have HT := Lib.hid ht
            clear ht
            have e5 : (k : Int) < (m : Int) := by omega
            have e6 : (i : Int) < (n : Int) := by omega
            have e7 : decide ((k : Int) < (m : Int)) = true := decide_eq_true e5
            have e8 : decide (k < m) = true := decide_eq_true hqm2
            by_cases he : t = s
            · subst he
              have HI := Lib.hid (show rsL (L.take (i + 1)) = R by
                rw [HST.out]; unfold inS
                have : R[qI R t]? = some t := by rw [HQ.out, List.getElem?_eq_getElem hkR, HT.out]
                rw [if_pos this])
              have e9 : (t.toList == t.toList) = true := beq_self_eq_true _
              refine regN_start (N := 14) (S := (fun W' => W'.cell? ⟨g, k, none⟩ = some (.string t) ∧ W'.cell? ⟨f, o + i, none⟩ = some (.string t))) (by kernel_rfl) ?_
              change wpAnyN _ _ _ _ _ _ _ #[false, false, false, false, false, false, false, false, false, false, false, false, false, false, false] _ (World.drew _)
              have hS0 := (show (fun W' => W'.cell? ⟨g, k, none⟩ = some (.string t) ∧ W'.cell? ⟨f, o + i, none⟩ = some (.string t)) wr.drew from ⟨ck, hci⟩)
              refine regN_takeC [4, 3] (i := 0) (d := (some 14)) (v := ?v6b1) (l2 := #[true, false, false, false, false, false, false, false, false, false, false, false, false, false, false]) rfl rfl rfl (by kernel_rfl) (by kernel_rfl) (by kernel_rfl) (by kernel_rfl) (fun _ _ _ h => h) (by rfl) ?hv6b1 hS0 ?h6b1
              case hv6b1 => intro u hSu; clear hSu; go_simp; (try with_reducible rfl)
              (try simp only [Act.put, List.setIfInBounds_toArray, List.set_cons_zero, List.set_cons_succ])
              refine regN_takeC [4, 3, 2] (i := 1) (d := (some 15)) (v := ?v6b2) (l2 := #[true, true, false, false, false, false, false, false, false, false, false, false, false, false, false]) rfl rfl rfl (by kernel_rfl) (by kernel_rfl) (by kernel_rfl) (by kernel_rfl) (fun _ _ _ h => h) (by rfl) ?hv6b2 hS0 ?h6b2
              case hv6b2 => intro u hSu; clear hSu; go_simp; (try with_reducible rfl)
              (try simp only [Act.put, List.setIfInBounds_toArray, List.set_cons_zero, List.set_cons_succ])
              refine regN_takeC [4, 3] (i := 2) (d := (some 16)) (v := ?v6b3) (l2 := #[true, true, true, false, false, false, false, false, false, false, false, false, false, false, false]) rfl rfl rfl (by kernel_rfl) (by kernel_rfl) (by kernel_rfl) (by kernel_rfl) (fun _ _ _ h => h) (by rfl) ?hv6b3 hS0 ?h6b3
              case hv6b3 => intro u hSu; clear hSu; go_simp; (try with_reducible rfl)
              (try simp only [Act.put, List.setIfInBounds_toArray, List.set_cons_zero, List.set_cons_succ])
              refine regN_takeC [4] (i := 3) (d := (some 17)) (v := ?v6b4) (l2 := #[true, true, true, true, false, false, false, false, false, false, false, false, false, false, false]) rfl rfl rfl (by kernel_rfl) (by kernel_rfl) (by kernel_rfl) (by kernel_rfl) (fun _ _ _ h => h) (by rfl) ?hv6b4 hS0 ?h6b4
              case hv6b4 => intro u hSu; clear hSu; go_simp; (try with_reducible rfl)
              (try simp only [Act.put, List.setIfInBounds_toArray, List.set_cons_zero, List.set_cons_succ])
              refine regN_take (i := 4) (d := (some 18)) (v := ?v6b5) (l2 := #[true, true, true, true, true, false, false, false, false, false, false, false, false, false, false]) rfl rfl rfl (by kernel_rfl) (by kernel_rfl) (by kernel_rfl) (by kernel_rfl) (fun _ _ _ h => h) (by rfl) ?hv6b5 hS0 ?h6b5
              case hv6b5 => intro u hSu; clear hSu; go_simp; (try with_reducible rfl)
              (try simp only [Act.put, List.setIfInBounds_toArray, List.set_cons_zero, List.set_cons_succ])
              refine regN_takeC [13, 8, 7] (i := 5) (d := (some 19)) (v := ?v6b6) (l2 := #[true, true, true, true, true, true, false, false, false, false, false, false, false, false, false]) rfl rfl rfl (by kernel_rfl) (by kernel_rfl) (by kernel_rfl) (by kernel_rfl) (fun _ _ _ h => h) (by rfl) ?hv6b6 hS0 ?h6b6
              case hv6b6 => intro u hSu; clear hSu; go_simp; (try with_reducible rfl)
              (try simp only [Act.put, List.setIfInBounds_toArray, List.set_cons_zero, List.set_cons_succ])
              refine regN_takeC [13, 8, 7] (i := 6) (d := (some 20)) (v := ?v6b7) (l2 := #[true, true, true, true, true, true, true, false, false, false, false, false, false, false, false]) rfl rfl rfl (by kernel_rfl) (by kernel_rfl) (by kernel_rfl) (by kernel_rfl) (fun _ _ _ h => h) (by rfl) ?hv6b7 hS0 ?h6b7
              case hv6b7 => intro u hSu; clear hSu; go_simp; (try with_reducible rfl)
              (try simp only [Act.put, List.setIfInBounds_toArray, List.set_cons_zero, List.set_cons_succ])
              refine regN_takeC [13, 8] (i := 7) (d := (some 21)) (v := ?v6b8) (l2 := #[true, true, true, true, true, true, true, true, false, false, false, false, false, false, false]) rfl rfl rfl (by kernel_rfl) (by kernel_rfl) (by kernel_rfl) (by kernel_rfl) (fun _ _ _ h => h) (by rfl) ?hv6b8 hS0 ?h6b8
              case hv6b8 => intro u hSu; clear hSu; go_simp; (try with_reducible rfl)
              (try simp only [Act.put, List.setIfInBounds_toArray, List.set_cons_zero, List.set_cons_succ])
              refine regN_takeC [13] (i := 8) (d := (some 22)) (v := ?v6b9) (l2 := #[true, true, true, true, true, true, true, true, true, false, false, false, false, false, false]) rfl rfl rfl (by kernel_rfl) (by kernel_rfl) (by kernel_rfl) (by kernel_rfl) (fun _ _ _ h => h) (by rfl) ?hv6b9 hS0 ?h6b9
              case hv6b9 => intro u hSu; (try dsimp only at hSu); (try go_split_ands); go_simp; (try with_reducible rfl)
              (try simp only [Act.put, List.setIfInBounds_toArray, List.set_cons_zero, List.set_cons_succ])
              refine regN_takeC [13, 12, 11] (i := 9) (d := (some 23)) (v := ?v6b10) (l2 := #[true, true, true, true, true, true, true, true, true, true, false, false, false, false, false]) rfl rfl rfl (by kernel_rfl) (by kernel_rfl) (by kernel_rfl) (by kernel_rfl) (fun _ _ _ h => h) (by rfl) ?hv6b10 hS0 ?h6b10
              case hv6b10 => intro u hSu; clear hSu; go_simp; (try with_reducible rfl)
              (try simp only [Act.put, List.setIfInBounds_toArray, List.set_cons_zero, List.set_cons_succ])
              refine regN_takeC [13, 12, 11] (i := 10) (d := (some 24)) (v := ?v6b11) (l2 := #[true, true, true, true, true, true, true, true, true, true, true, false, false, false, false]) rfl rfl rfl (by kernel_rfl) (by kernel_rfl) (by kernel_rfl) (by kernel_rfl) (fun _ _ _ h => h) (by rfl) ?hv6b11 hS0 ?h6b11
              case hv6b11 => intro u hSu; clear hSu; go_simp; (try with_reducible rfl)
              (try simp only [Act.put, List.setIfInBounds_toArray, List.set_cons_zero, List.set_cons_succ])
              refine regN_takeC [13, 12] (i := 11) (d := (some 25)) (v := ?v6b12) (l2 := #[true, true, true, true, true, true, true, true, true, true, true, true, false, false, false]) rfl rfl rfl (by kernel_rfl) (by kernel_rfl) (by kernel_rfl) (by kernel_rfl) (fun _ _ _ h => h) (by rfl) ?hv6b12 hS0 ?h6b12
              case hv6b12 => intro u hSu; clear hSu; go_simp; (try with_reducible rfl)
              (try simp only [Act.put, List.setIfInBounds_toArray, List.set_cons_zero, List.set_cons_succ])
              refine regN_takeC [13] (i := 12) (d := (some 26)) (v := ?v6b13) (l2 := #[true, true, true, true, true, true, true, true, true, true, true, true, true, false, false]) rfl rfl rfl (by kernel_rfl) (by kernel_rfl) (by kernel_rfl) (by kernel_rfl) (fun _ _ _ h => h) (by rfl) ?hv6b13 hS0 ?h6b13
              case hv6b13 => intro u hSu; (try dsimp only at hSu); (try go_split_ands); go_simp; (try with_reducible rfl)
              (try simp only [Act.put, List.setIfInBounds_toArray, List.set_cons_zero, List.set_cons_succ])
              refine regN_take (i := 13) (d := (some 27)) (v := ?v6b14) (l2 := #[true, true, true, true, true, true, true, true, true, true, true, true, true, true, false]) rfl rfl rfl (by kernel_rfl) (by kernel_rfl) (by kernel_rfl) (by kernel_rfl) (fun _ _ _ h => h) (by rfl) ?hv6b14 hS0 ?h6b14
              case hv6b14 => intro u hSu; clear hSu; go_simp; (try with_reducible rfl)
              (try simp only [Act.put, List.setIfInBounds_toArray, List.set_cons_zero, List.set_cons_succ])
              refine regN_ready (rs := [14]) (by kernel_rfl) (by simp) ?_
              refine (AllN.cons (i := 14) (l2 := #[true, true, true, true, true, true, true, true, true, true, true, true, true, true, true]) rfl rfl (fun K hK => ?_) AllN.nil)
              go_simp
              refine hK _ _ (fun h => absurd rfl h) ?_
              clear hK K
              (try simp only [Act.put, List.setIfInBounds_toArray, List.set_cons_zero, List.set_cons_succ])
              refine regN_done (by kernel_rfl) ?_ _
              go_upto_region 8 with fail
              refine regN_start (N := 14) (S := (fun W' => W'.cell? ⟨g, k, none⟩ = some (.string t) ∧ W'.cell? ⟨f, o + i, none⟩ = some (.string t))) (by kernel_rfl) ?_
              change wpAnyN _ _ _ _ _ _ _ #[false, false, false, false, false, false, false, false, false, false, false, false, false, false, false] _ (World.drew _)
              have hS0 := (show (fun W' => W'.cell? ⟨g, k, none⟩ = some (.string t) ∧ W'.cell? ⟨f, o + i, none⟩ = some (.string t)) wr.drew.drew from ⟨ck, hci⟩)
              refine regN_takeC [4, 3] (i := 0) (d := (some 31)) (v := ?v8b1) (l2 := #[true, false, false, false, false, false, false, false, false, false, false, false, false, false, false]) rfl rfl rfl (by kernel_rfl) (by kernel_rfl) (by kernel_rfl) (by kernel_rfl) (fun _ _ _ h => h) (by rfl) ?hv8b1 hS0 ?h8b1
              case hv8b1 => intro u hSu; clear hSu; go_simp; (try with_reducible rfl)
              (try simp only [Act.put, List.setIfInBounds_toArray, List.set_cons_zero, List.set_cons_succ])
              refine regN_takeC [4, 3, 2] (i := 1) (d := (some 32)) (v := ?v8b2) (l2 := #[true, true, false, false, false, false, false, false, false, false, false, false, false, false, false]) rfl rfl rfl (by kernel_rfl) (by kernel_rfl) (by kernel_rfl) (by kernel_rfl) (fun _ _ _ h => h) (by rfl) ?hv8b2 hS0 ?h8b2
              case hv8b2 => intro u hSu; clear hSu; go_simp; (try with_reducible rfl)
              (try simp only [Act.put, List.setIfInBounds_toArray, List.set_cons_zero, List.set_cons_succ])
              refine regN_takeC [4, 3] (i := 2) (d := (some 33)) (v := ?v8b3) (l2 := #[true, true, true, false, false, false, false, false, false, false, false, false, false, false, false]) rfl rfl rfl (by kernel_rfl) (by kernel_rfl) (by kernel_rfl) (by kernel_rfl) (fun _ _ _ h => h) (by rfl) ?hv8b3 hS0 ?h8b3
              case hv8b3 => intro u hSu; clear hSu; go_simp; (try with_reducible rfl)
              (try simp only [Act.put, List.setIfInBounds_toArray, List.set_cons_zero, List.set_cons_succ])
              refine regN_takeC [4] (i := 3) (d := (some 34)) (v := ?v8b4) (l2 := #[true, true, true, true, false, false, false, false, false, false, false, false, false, false, false]) rfl rfl rfl (by kernel_rfl) (by kernel_rfl) (by kernel_rfl) (by kernel_rfl) (fun _ _ _ h => h) (by rfl) ?hv8b4 hS0 ?h8b4
              case hv8b4 => intro u hSu; clear hSu; go_simp; (try with_reducible rfl)
              (try simp only [Act.put, List.setIfInBounds_toArray, List.set_cons_zero, List.set_cons_succ])
              refine regN_take (i := 4) (d := (some 35)) (v := ?v8b5) (l2 := #[true, true, true, true, true, false, false, false, false, false, false, false, false, false, false]) rfl rfl rfl (by kernel_rfl) (by kernel_rfl) (by kernel_rfl) (by kernel_rfl) (fun _ _ _ h => h) (by rfl) ?hv8b5 hS0 ?h8b5
              case hv8b5 => intro u hSu; clear hSu; go_simp; (try with_reducible rfl)
              (try simp only [Act.put, List.setIfInBounds_toArray, List.set_cons_zero, List.set_cons_succ])
              refine regN_takeC [13, 8, 7] (i := 5) (d := (some 36)) (v := ?v8b6) (l2 := #[true, true, true, true, true, true, false, false, false, false, false, false, false, false, false]) rfl rfl rfl (by kernel_rfl) (by kernel_rfl) (by kernel_rfl) (by kernel_rfl) (fun _ _ _ h => h) (by rfl) ?hv8b6 hS0 ?h8b6
              case hv8b6 => intro u hSu; clear hSu; go_simp; (try with_reducible rfl)
              (try simp only [Act.put, List.setIfInBounds_toArray, List.set_cons_zero, List.set_cons_succ])
              refine regN_takeC [13, 8, 7] (i := 6) (d := (some 37)) (v := ?v8b7) (l2 := #[true, true, true, true, true, true, true, false, false, false, false, false, false, false, false]) rfl rfl rfl (by kernel_rfl) (by kernel_rfl) (by kernel_rfl) (by kernel_rfl) (fun _ _ _ h => h) (by rfl) ?hv8b7 hS0 ?h8b7
              case hv8b7 => intro u hSu; clear hSu; go_simp; (try with_reducible rfl)
              (try simp only [Act.put, List.setIfInBounds_toArray, List.set_cons_zero, List.set_cons_succ])
              refine regN_takeC [13, 8] (i := 7) (d := (some 38)) (v := ?v8b8) (l2 := #[true, true, true, true, true, true, true, true, false, false, false, false, false, false, false]) rfl rfl rfl (by kernel_rfl) (by kernel_rfl) (by kernel_rfl) (by kernel_rfl) (fun _ _ _ h => h) (by rfl) ?hv8b8 hS0 ?h8b8
              case hv8b8 => intro u hSu; clear hSu; go_simp; (try with_reducible rfl)
              (try simp only [Act.put, List.setIfInBounds_toArray, List.set_cons_zero, List.set_cons_succ])
              refine regN_takeC [13] (i := 8) (d := (some 39)) (v := ?v8b9) (l2 := #[true, true, true, true, true, true, true, true, true, false, false, false, false, false, false]) rfl rfl rfl (by kernel_rfl) (by kernel_rfl) (by kernel_rfl) (by kernel_rfl) (fun _ _ _ h => h) (by rfl) ?hv8b9 hS0 ?h8b9
              case hv8b9 => intro u hSu; (try dsimp only at hSu); (try go_split_ands); go_simp; (try with_reducible rfl)
              (try simp only [Act.put, List.setIfInBounds_toArray, List.set_cons_zero, List.set_cons_succ])
              refine regN_takeC [13, 12, 11] (i := 9) (d := (some 40)) (v := ?v8b10) (l2 := #[true, true, true, true, true, true, true, true, true, true, false, false, false, false, false]) rfl rfl rfl (by kernel_rfl) (by kernel_rfl) (by kernel_rfl) (by kernel_rfl) (fun _ _ _ h => h) (by rfl) ?hv8b10 hS0 ?h8b10
              case hv8b10 => intro u hSu; clear hSu; go_simp; (try with_reducible rfl)
              (try simp only [Act.put, List.setIfInBounds_toArray, List.set_cons_zero, List.set_cons_succ])
              refine regN_takeC [13, 12, 11] (i := 10) (d := (some 41)) (v := ?v8b11) (l2 := #[true, true, true, true, true, true, true, true, true, true, true, false, false, false, false]) rfl rfl rfl (by kernel_rfl) (by kernel_rfl) (by kernel_rfl) (by kernel_rfl) (fun _ _ _ h => h) (by rfl) ?hv8b11 hS0 ?h8b11
              case hv8b11 => intro u hSu; clear hSu; go_simp; (try with_reducible rfl)
              (try simp only [Act.put, List.setIfInBounds_toArray, List.set_cons_zero, List.set_cons_succ])
              refine regN_takeC [13, 12] (i := 11) (d := (some 42)) (v := ?v8b12) (l2 := #[true, true, true, true, true, true, true, true, true, true, true, true, false, false, false]) rfl rfl rfl (by kernel_rfl) (by kernel_rfl) (by kernel_rfl) (by kernel_rfl) (fun _ _ _ h => h) (by rfl) ?hv8b12 hS0 ?h8b12
              case hv8b12 => intro u hSu; clear hSu; go_simp; (try with_reducible rfl)
              (try simp only [Act.put, List.setIfInBounds_toArray, List.set_cons_zero, List.set_cons_succ])
              refine regN_takeC [13] (i := 12) (d := (some 43)) (v := ?v8b13) (l2 := #[true, true, true, true, true, true, true, true, true, true, true, true, true, false, false]) rfl rfl rfl (by kernel_rfl) (by kernel_rfl) (by kernel_rfl) (by kernel_rfl) (fun _ _ _ h => h) (by rfl) ?hv8b13 hS0 ?h8b13
              case hv8b13 => intro u hSu; (try dsimp only at hSu); (try go_split_ands); go_simp; (try with_reducible rfl)
              (try simp only [Act.put, List.setIfInBounds_toArray, List.set_cons_zero, List.set_cons_succ])
              refine regN_take (i := 13) (d := (some 44)) (v := ?v8b14) (l2 := #[true, true, true, true, true, true, true, true, true, true, true, true, true, true, false]) rfl rfl rfl (by kernel_rfl) (by kernel_rfl) (by kernel_rfl) (by kernel_rfl) (fun _ _ _ h => h) (by rfl) ?hv8b14 hS0 ?h8b14
              case hv8b14 => intro u hSu; clear hSu; go_simp; (try with_reducible rfl)
              (try simp only [Act.put, List.setIfInBounds_toArray, List.set_cons_zero, List.set_cons_succ])
              refine regN_ready (rs := [14]) (by kernel_rfl) (by simp) ?_
              refine (AllN.cons (i := 14) (l2 := #[true, true, true, true, true, true, true, true, true, true, true, true, true, true, true]) rfl rfl (fun K hK => ?_) AllN.nil)
              go_simp
              refine hK _ _ (fun h => absurd rfl h) ?_
              clear hK K
              (try simp only [Act.put, List.setIfInBounds_toArray, List.set_cons_zero, List.set_cons_succ])
              refine regN_done (by kernel_rfl) ?_ _
              have HB2 := Lib.hid (show Below w.heap.size w wr.drew.drew from HBi.out.drew.drew)
              have HO2 := Lib.hid (show wr.drew.drew.ownsRow w.heap.size 9 1 (.slice (some ⟨g, 0, none⟩) m d) m (strs R) from HOi.out)
              go_wp2
              go_roundw
              case rel => exact ⟨i + 1, by omega, by go_num, ⟨⟨R, m, g, d, HI.out, HM.out, rfl, HO2.out⟩, HB2.out⟩⟩
              case measure => simp [intOf] <;> omega
            · have HI := Lib.hid (show rsL (L.take (i + 1)) = R.take k ++ [s] ++ R.drop k by
                rw [HST.out]; unfold inS
                have : ¬ R[qI R s]? = some s := by
                  rw [HQ.out, List.getElem?_eq_getElem hkR, HT.out]
                  exact fun e => he (Option.some.inj e)
                rw [if_neg this, HQ.out])
              have e9 : (t.toList == s.toList) = false := Bool.eq_false_iff.2 (fun e => he (toList_iff.1 (beq_iff_eq.1 e)))
              refine regN_start (N := 14) (S := (fun W' => W'.cell? ⟨g, k, none⟩ = some (.string t) ∧ W'.cell? ⟨f, o + i, none⟩ = some (.string s))) (by kernel_rfl) ?_
              change wpAnyN _ _ _ _ _ _ _ #[false, false, false, false, false, false, false, false, false, false, false, false, false, false, false] _ (World.drew _)
              have hS0 := (show (fun W' => W'.cell? ⟨g, k, none⟩ = some (.string t) ∧ W'.cell? ⟨f, o + i, none⟩ = some (.string s)) wr.drew from ⟨ck, hci⟩)
              refine regN_takeC [4, 3] (i := 0) (d := (some 14)) (v := ?v6c1) (l2 := #[true, false, false, false, false, false, false, false, false, false, false, false, false, false, false]) rfl rfl rfl (by kernel_rfl) (by kernel_rfl) (by kernel_rfl) (by kernel_rfl) (fun _ _ _ h => h) (by rfl) ?hv6c1 hS0 ?h6c1
              case hv6c1 => intro u hSu; clear hSu; go_simp; (try with_reducible rfl)
              (try simp only [Act.put, List.setIfInBounds_toArray, List.set_cons_zero, List.set_cons_succ])
              refine regN_takeC [4, 3, 2] (i := 1) (d := (some 15)) (v := ?v6c2) (l2 := #[true, true, false, false, false, false, false, false, false, false, false, false, false, false, false]) rfl rfl rfl (by kernel_rfl) (by kernel_rfl) (by kernel_rfl) (by kernel_rfl) (fun _ _ _ h => h) (by rfl) ?hv6c2 hS0 ?h6c2
              case hv6c2 => intro u hSu; clear hSu; go_simp; (try with_reducible rfl)
              (try simp only [Act.put, List.setIfInBounds_toArray, List.set_cons_zero, List.set_cons_succ])
              refine regN_takeC [4, 3] (i := 2) (d := (some 16)) (v := ?v6c3) (l2 := #[true, true, true, false, false, false, false, false, false, false, false, false, false, false, false]) rfl rfl rfl (by kernel_rfl) (by kernel_rfl) (by kernel_rfl) (by kernel_rfl) (fun _ _ _ h => h) (by rfl) ?hv6c3 hS0 ?h6c3
              case hv6c3 => intro u hSu; clear hSu; go_simp; (try with_reducible rfl)
              (try simp only [Act.put, List.setIfInBounds_toArray, List.set_cons_zero, List.set_cons_succ])
              refine regN_takeC [4] (i := 3) (d := (some 17)) (v := ?v6c4) (l2 := #[true, true, true, true, false, false, false, false, false, false, false, false, false, false, false]) rfl rfl rfl (by kernel_rfl) (by kernel_rfl) (by kernel_rfl) (by kernel_rfl) (fun _ _ _ h => h) (by rfl) ?hv6c4 hS0 ?h6c4
              case hv6c4 => intro u hSu; clear hSu; go_simp; (try with_reducible rfl)
              (try simp only [Act.put, List.setIfInBounds_toArray, List.set_cons_zero, List.set_cons_succ])
              refine regN_take (i := 4) (d := (some 18)) (v := ?v6c5) (l2 := #[true, true, true, true, true, false, false, false, false, false, false, false, false, false, false]) rfl rfl rfl (by kernel_rfl) (by kernel_rfl) (by kernel_rfl) (by kernel_rfl) (fun _ _ _ h => h) (by rfl) ?hv6c5 hS0 ?h6c5
              case hv6c5 => intro u hSu; clear hSu; go_simp; (try with_reducible rfl)
              (try simp only [Act.put, List.setIfInBounds_toArray, List.set_cons_zero, List.set_cons_succ])
              refine regN_takeC [13, 8, 7] (i := 5) (d := (some 19)) (v := ?v6c6) (l2 := #[true, true, true, true, true, true, false, false, false, false, false, false, false, false, false]) rfl rfl rfl (by kernel_rfl) (by kernel_rfl) (by kernel_rfl) (by kernel_rfl) (fun _ _ _ h => h) (by rfl) ?hv6c6 hS0 ?h6c6
              case hv6c6 => intro u hSu; clear hSu; go_simp; (try with_reducible rfl)
              (try simp only [Act.put, List.setIfInBounds_toArray, List.set_cons_zero, List.set_cons_succ])
              refine regN_takeC [13, 8, 7] (i := 6) (d := (some 20)) (v := ?v6c7) (l2 := #[true, true, true, true, true, true, true, false, false, false, false, false, false, false, false]) rfl rfl rfl (by kernel_rfl) (by kernel_rfl) (by kernel_rfl) (by kernel_rfl) (fun _ _ _ h => h) (by rfl) ?hv6c7 hS0 ?h6c7
              case hv6c7 => intro u hSu; clear hSu; go_simp; (try with_reducible rfl)
              (try simp only [Act.put, List.setIfInBounds_toArray, List.set_cons_zero, List.set_cons_succ])
              refine regN_takeC [13, 8] (i := 7) (d := (some 21)) (v := ?v6c8) (l2 := #[true, true, true, true, true, true, true, true, false, false, false, false, false, false, false]) rfl rfl rfl (by kernel_rfl) (by kernel_rfl) (by kernel_rfl) (by kernel_rfl) (fun _ _ _ h => h) (by rfl) ?hv6c8 hS0 ?h6c8
              case hv6c8 => intro u hSu; clear hSu; go_simp; (try with_reducible rfl)
              (try simp only [Act.put, List.setIfInBounds_toArray, List.set_cons_zero, List.set_cons_succ])
              refine regN_takeC [13] (i := 8) (d := (some 22)) (v := ?v6c9) (l2 := #[true, true, true, true, true, true, true, true, true, false, false, false, false, false, false]) rfl rfl rfl (by kernel_rfl) (by kernel_rfl) (by kernel_rfl) (by kernel_rfl) (fun _ _ _ h => h) (by rfl) ?hv6c9 hS0 ?h6c9
              case hv6c9 => intro u hSu; (try dsimp only at hSu); (try go_split_ands); go_simp; (try with_reducible rfl)
              (try simp only [Act.put, List.setIfInBounds_toArray, List.set_cons_zero, List.set_cons_succ])
              refine regN_takeC [13, 12, 11] (i := 9) (d := (some 23)) (v := ?v6c10) (l2 := #[true, true, true, true, true, true, true, true, true, true, false, false, false, false, false]) rfl rfl rfl (by kernel_rfl) (by kernel_rfl) (by kernel_rfl) (by kernel_rfl) (fun _ _ _ h => h) (by rfl) ?hv6c10 hS0 ?h6c10
              case hv6c10 => intro u hSu; clear hSu; go_simp; (try with_reducible rfl)
              (try simp only [Act.put, List.setIfInBounds_toArray, List.set_cons_zero, List.set_cons_succ])
              refine regN_takeC [13, 12, 11] (i := 10) (d := (some 24)) (v := ?v6c11) (l2 := #[true, true, true, true, true, true, true, true, true, true, true, false, false, false, false]) rfl rfl rfl (by kernel_rfl) (by kernel_rfl) (by kernel_rfl) (by kernel_rfl) (fun _ _ _ h => h) (by rfl) ?hv6c11 hS0 ?h6c11
              case hv6c11 => intro u hSu; clear hSu; go_simp; (try with_reducible rfl)
              (try simp only [Act.put, List.setIfInBounds_toArray, List.set_cons_zero, List.set_cons_succ])
              refine regN_takeC [13, 12] (i := 11) (d := (some 25)) (v := ?v6c12) (l2 := #[true, true, true, true, true, true, true, true, true, true, true, true, false, false, false]) rfl rfl rfl (by kernel_rfl) (by kernel_rfl) (by kernel_rfl) (by kernel_rfl) (fun _ _ _ h => h) (by rfl) ?hv6c12 hS0 ?h6c12
              case hv6c12 => intro u hSu; clear hSu; go_simp; (try with_reducible rfl)
              (try simp only [Act.put, List.setIfInBounds_toArray, List.set_cons_zero, List.set_cons_succ])
              refine regN_takeC [13] (i := 12) (d := (some 26)) (v := ?v6c13) (l2 := #[true, true, true, true, true, true, true, true, true, true, true, true, true, false, false]) rfl rfl rfl (by kernel_rfl) (by kernel_rfl) (by kernel_rfl) (by kernel_rfl) (fun _ _ _ h => h) (by rfl) ?hv6c13 hS0 ?h6c13
              case hv6c13 => intro u hSu; (try dsimp only at hSu); (try go_split_ands); go_simp; (try with_reducible rfl)
              (try simp only [Act.put, List.setIfInBounds_toArray, List.set_cons_zero, List.set_cons_succ])
              refine regN_take (i := 13) (d := (some 27)) (v := ?v6c14) (l2 := #[true, true, true, true, true, true, true, true, true, true, true, true, true, true, false]) rfl rfl rfl (by kernel_rfl) (by kernel_rfl) (by kernel_rfl) (by kernel_rfl) (fun _ _ _ h => h) (by rfl) ?hv6c14 hS0 ?h6c14
              case hv6c14 => intro u hSu; clear hSu; go_simp; (try with_reducible rfl)
              (try simp only [Act.put, List.setIfInBounds_toArray, List.set_cons_zero, List.set_cons_succ])
              refine regN_ready (rs := [14]) (by kernel_rfl) (by simp) ?_
              refine (AllN.cons (i := 14) (l2 := #[true, true, true, true, true, true, true, true, true, true, true, true, true, true, true]) rfl rfl (fun K hK => ?_) AllN.nil)
              go_simp
              refine hK _ _ (fun h => absurd rfl h) ?_
              clear hK K
              (try simp only [Act.put, List.setIfInBounds_toArray, List.set_cons_zero, List.set_cons_succ])
              refine regN_done (by kernel_rfl) ?_ _
              go_upto_region 8 with fail
              refine regN_start (N := 14) (S := (fun W' => W'.cell? ⟨g, k, none⟩ = some (.string t) ∧ W'.cell? ⟨f, o + i, none⟩ = some (.string s))) (by kernel_rfl) ?_
              change wpAnyN _ _ _ _ _ _ _ #[false, false, false, false, false, false, false, false, false, false, false, false, false, false, false] _ (World.drew _)
              have hS0 := (show (fun W' => W'.cell? ⟨g, k, none⟩ = some (.string t) ∧ W'.cell? ⟨f, o + i, none⟩ = some (.string s)) wr.drew.drew from ⟨ck, hci⟩)
              refine regN_takeC [4, 3] (i := 0) (d := (some 31)) (v := ?v8c1) (l2 := #[true, false, false, false, false, false, false, false, false, false, false, false, false, false, false]) rfl rfl rfl (by kernel_rfl) (by kernel_rfl) (by kernel_rfl) (by kernel_rfl) (fun _ _ _ h => h) (by rfl) ?hv8c1 hS0 ?h8c1
              case hv8c1 => intro u hSu; clear hSu; go_simp; (try with_reducible rfl)
              (try simp only [Act.put, List.setIfInBounds_toArray, List.set_cons_zero, List.set_cons_succ])
              refine regN_takeC [4, 3, 2] (i := 1) (d := (some 32)) (v := ?v8c2) (l2 := #[true, true, false, false, false, false, false, false, false, false, false, false, false, false, false]) rfl rfl rfl (by kernel_rfl) (by kernel_rfl) (by kernel_rfl) (by kernel_rfl) (fun _ _ _ h => h) (by rfl) ?hv8c2 hS0 ?h8c2
              case hv8c2 => intro u hSu; clear hSu; go_simp; (try with_reducible rfl)
              (try simp only [Act.put, List.setIfInBounds_toArray, List.set_cons_zero, List.set_cons_succ])
              refine regN_takeC [4, 3] (i := 2) (d := (some 33)) (v := ?v8c3) (l2 := #[true, true, true, false, false, false, false, false, false, false, false, false, false, false, false]) rfl rfl rfl (by kernel_rfl) (by kernel_rfl) (by kernel_rfl) (by kernel_rfl) (fun _ _ _ h => h) (by rfl) ?hv8c3 hS0 ?h8c3
              case hv8c3 => intro u hSu; clear hSu; go_simp; (try with_reducible rfl)
              (try simp only [Act.put, List.setIfInBounds_toArray, List.set_cons_zero, List.set_cons_succ])
              refine regN_takeC [4] (i := 3) (d := (some 34)) (v := ?v8c4) (l2 := #[true, true, true, true, false, false, false, false, false, false, false, false, false, false, false]) rfl rfl rfl (by kernel_rfl) (by kernel_rfl) (by kernel_rfl) (by kernel_rfl) (fun _ _ _ h => h) (by rfl) ?hv8c4 hS0 ?h8c4
              case hv8c4 => intro u hSu; clear hSu; go_simp; (try with_reducible rfl)
              (try simp only [Act.put, List.setIfInBounds_toArray, List.set_cons_zero, List.set_cons_succ])
              refine regN_take (i := 4) (d := (some 35)) (v := ?v8c5) (l2 := #[true, true, true, true, true, false, false, false, false, false, false, false, false, false, false]) rfl rfl rfl (by kernel_rfl) (by kernel_rfl) (by kernel_rfl) (by kernel_rfl) (fun _ _ _ h => h) (by rfl) ?hv8c5 hS0 ?h8c5
              case hv8c5 => intro u hSu; clear hSu; go_simp; (try with_reducible rfl)
              (try simp only [Act.put, List.setIfInBounds_toArray, List.set_cons_zero, List.set_cons_succ])
              refine regN_takeC [13, 8, 7] (i := 5) (d := (some 36)) (v := ?v8c6) (l2 := #[true, true, true, true, true, true, false, false, false, false, false, false, false, false, false]) rfl rfl rfl (by kernel_rfl) (by kernel_rfl) (by kernel_rfl) (by kernel_rfl) (fun _ _ _ h => h) (by rfl) ?hv8c6 hS0 ?h8c6
              case hv8c6 => intro u hSu; clear hSu; go_simp; (try with_reducible rfl)
              (try simp only [Act.put, List.setIfInBounds_toArray, List.set_cons_zero, List.set_cons_succ])
              refine regN_takeC [13, 8, 7] (i := 6) (d := (some 37)) (v := ?v8c7) (l2 := #[true, true, true, true, true, true, true, false, false, false, false, false, false, false, false]) rfl rfl rfl (by kernel_rfl) (by kernel_rfl) (by kernel_rfl) (by kernel_rfl) (fun _ _ _ h => h) (by rfl) ?hv8c7 hS0 ?h8c7
              case hv8c7 => intro u hSu; clear hSu; go_simp; (try with_reducible rfl)
              (try simp only [Act.put, List.setIfInBounds_toArray, List.set_cons_zero, List.set_cons_succ])
              refine regN_takeC [13, 8] (i := 7) (d := (some 38)) (v := ?v8c8) (l2 := #[true, true, true, true, true, true, true, true, false, false, false, false, false, false, false]) rfl rfl rfl (by kernel_rfl) (by kernel_rfl) (by kernel_rfl) (by kernel_rfl) (fun _ _ _ h => h) (by rfl) ?hv8c8 hS0 ?h8c8
              case hv8c8 => intro u hSu; clear hSu; go_simp; (try with_reducible rfl)
              (try simp only [Act.put, List.setIfInBounds_toArray, List.set_cons_zero, List.set_cons_succ])
              refine regN_takeC [13] (i := 8) (d := (some 39)) (v := ?v8c9) (l2 := #[true, true, true, true, true, true, true, true, true, false, false, false, false, false, false]) rfl rfl rfl (by kernel_rfl) (by kernel_rfl) (by kernel_rfl) (by kernel_rfl) (fun _ _ _ h => h) (by rfl) ?hv8c9 hS0 ?h8c9
              case hv8c9 => intro u hSu; (try dsimp only at hSu); (try go_split_ands); go_simp; (try with_reducible rfl)
              (try simp only [Act.put, List.setIfInBounds_toArray, List.set_cons_zero, List.set_cons_succ])
              refine regN_takeC [13, 12, 11] (i := 9) (d := (some 40)) (v := ?v8c10) (l2 := #[true, true, true, true, true, true, true, true, true, true, false, false, false, false, false]) rfl rfl rfl (by kernel_rfl) (by kernel_rfl) (by kernel_rfl) (by kernel_rfl) (fun _ _ _ h => h) (by rfl) ?hv8c10 hS0 ?h8c10
              case hv8c10 => intro u hSu; clear hSu; go_simp; (try with_reducible rfl)
              (try simp only [Act.put, List.setIfInBounds_toArray, List.set_cons_zero, List.set_cons_succ])
              refine regN_takeC [13, 12, 11] (i := 10) (d := (some 41)) (v := ?v8c11) (l2 := #[true, true, true, true, true, true, true, true, true, true, true, false, false, false, false]) rfl rfl rfl (by kernel_rfl) (by kernel_rfl) (by kernel_rfl) (by kernel_rfl) (fun _ _ _ h => h) (by rfl) ?hv8c11 hS0 ?h8c11
              case hv8c11 => intro u hSu; clear hSu; go_simp; (try with_reducible rfl)
              (try simp only [Act.put, List.setIfInBounds_toArray, List.set_cons_zero, List.set_cons_succ])
              refine regN_takeC [13, 12] (i := 11) (d := (some 42)) (v := ?v8c12) (l2 := #[true, true, true, true, true, true, true, true, true, true, true, true, false, false, false]) rfl rfl rfl (by kernel_rfl) (by kernel_rfl) (by kernel_rfl) (by kernel_rfl) (fun _ _ _ h => h) (by rfl) ?hv8c12 hS0 ?h8c12
              case hv8c12 => intro u hSu; clear hSu; go_simp; (try with_reducible rfl)
              (try simp only [Act.put, List.setIfInBounds_toArray, List.set_cons_zero, List.set_cons_succ])
              refine regN_takeC [13] (i := 12) (d := (some 43)) (v := ?v8c13) (l2 := #[true, true, true, true, true, true, true, true, true, true, true, true, true, false, false]) rfl rfl rfl (by kernel_rfl) (by kernel_rfl) (by kernel_rfl) (by kernel_rfl) (fun _ _ _ h => h) (by rfl) ?hv8c13 hS0 ?h8c13
              case hv8c13 => intro u hSu; (try dsimp only at hSu); (try go_split_ands); go_simp; (try with_reducible rfl)
              (try simp only [Act.put, List.setIfInBounds_toArray, List.set_cons_zero, List.set_cons_succ])
              refine regN_take (i := 13) (d := (some 44)) (v := ?v8c14) (l2 := #[true, true, true, true, true, true, true, true, true, true, true, true, true, true, false]) rfl rfl rfl (by kernel_rfl) (by kernel_rfl) (by kernel_rfl) (by kernel_rfl) (fun _ _ _ h => h) (by rfl) ?hv8c14 hS0 ?h8c14
              case hv8c14 => intro u hSu; clear hSu; go_simp; (try with_reducible rfl)
              (try simp only [Act.put, List.setIfInBounds_toArray, List.set_cons_zero, List.set_cons_succ])
              refine regN_ready (rs := [14]) (by kernel_rfl) (by simp) ?_
              refine (AllN.cons (i := 14) (l2 := #[true, true, true, true, true, true, true, true, true, true, true, true, true, true, true]) rfl rfl (fun K hK => ?_) AllN.nil)
              go_simp
              refine hK _ _ (fun h => absurd rfl h) ?_
              clear hK K
              (try simp only [Act.put, List.setIfInBounds_toArray, List.set_cons_zero, List.set_cons_succ])
              refine regN_done (by kernel_rfl) ?_ _
              have HB2 := Lib.hid (show Below w.heap.size w wr.drew.drew from HBi.out.drew.drew)
              have HO2 := Lib.hid (show wr.drew.drew.ownsRow w.heap.size 9 1 (.slice (some ⟨g, 0, none⟩) m d) m (strs R) from HOi.out)
              clear HBi HOi
              generalize wr.drew.drew = W at HB2 HO2 ⊢
              have hmd : m ≤ d := by obtain ⟨_, _, e, h1, _⟩ := own_shape HO2.out; injection e with _ _ e3; omega
              have hgW : g < W.heap.size := (HO2.out.lt g rfl).2
              have hwW := HB2.out.size
              have HR0 := Lib.hid (SRow.of_own HO2.out).1
              have hcw := (HB2.out.cell (p := ⟨f, o + i, none⟩) hf).trans HCI.out
              have HCW := Lib.hid hcw
              clear hcw
              have hkd : k ≤ d := by omega
              have hkmm : k ≤ m := by omega
              have hkdi : (k : Int) ≤ (d : Int) := by omega
              have hkmi : (k : Int) ≤ (m : Int) := by omega
              have hmdi : (m : Int) ≤ (d : Int) := by omega
              go_upto_region 10 with (at_builtin; refine wpList_append_strsL rfl _ _ rfl W.heap.size 0 k d W.heap.size 0 _ [] (R.take k) (some ⟨g, 0, none⟩) rfl (own_lit0T (Nat.le_refl _)) rfl ((HR0.out.take k).up (below_al (Below.refl _ _) _)) (by rw [List.length_take, HM.out]; omega) (fun h => by cases h) (by omega) (by rw [World.size_alloc]; omega) ?_; intro g2 cap2 w2 ho2 hg2 hl2; rw [Nat.zero_add] at ho2 ⊢; have O2 := Lib.hid ho2; have HBa := Lib.hid ((below_al (Below.refl W.heap.size W) (.cells #[] 9)).trans (grown_below hg2 (fun k hk => by injection hk with hk; omega) (by rw [World.size_alloc]; omega))); clear ho2 hg2 hl2)
              have hsa := HBa.out.size
              have hci2 : w2.cell? ⟨f, o + i, none⟩ = some (.string s) := (HBa.out.cell (p := ⟨f, o + i, none⟩) (Nat.lt_of_lt_of_le hf hwW)).trans HCW.out
              go_upto_region 11 with (at_builtin; refine wpList_append_strsL rfl _ _ rfl W.heap.size k 1 1 g2 cap2 _ (R.take k) [s] (some ⟨w2.heap.size, 0, none⟩) rfl (O2.out.alloc _) rfl (srow_new _ _) rfl (fun h => by cases h) (by omega) (by rw [World.size_alloc]; omega) ?_; intro g3 cap3 w3 ho3 hg3 hl3; have O3 := Lib.hid ho3; have HBb := Lib.hid ((below_al HBa.out (.cells #[.string s] 9)).trans (grown_below hg3 (fun k hk => (O2.out.lt k hk).1) (by rw [World.size_alloc]; omega))); clear ho3 hg3 hl3)
              have hsb := HBb.out.size
              clear hci2
              go_wp2_with (at_builtin; refine wpList_append_strsL rfl _ _ rfl W.heap.size (k + 1) (m - k) (d - k) g3 cap3 _ (R.take k ++ [s]) (R.drop k) (some ⟨g, 0 + k, none⟩) rfl O3.out ?_ ((HR0.out.drop k).up HBb.out) (by rw [List.length_drop, HM.out]) (fun h => by cases h) (by omega) hsb ?_; rotate_left; intro g4 cap4 w4 ho4 hg4 hl4; have O4 := Lib.hid ho4; have HBc := Lib.hid (HBb.out.trans (grown_below hg4 (fun k hk => (O3.out.lt k hk).1) hsb)); clear ho4 hg4 hl4)
              go_roundw
              case rel => exact ⟨i + 1, by omega, by go_num, ⟨⟨R.take k ++ [s] ++ R.drop k, _, g4, cap4, HI.out, by rw [List.length_append, List.length_append, List.length_take, List.length_drop, HM.out]; simp <;> omega, rfl, own_base O4.out hwW⟩, below_on HB2.out HBc.out⟩⟩
              case measure => simp [intOf] <;> omega
          · obtain rfl : k = m := by omega
            have HI := Lib.hid (show rsL (L.take (i + 1)) = R.take k ++ [s] ++ R.drop k by
              rw [HST.out]; unfold inS
              have : ¬ R[qI R s]? = some s := by
                rw [HQ.out, List.getElem?_eq_none (by rw [HM.out]; omega)]
                exact fun e => by cases e
              rw [if_neg this, HQ.out])
            have e7 : decide ((k : Int) < (k : Int)) = false := decide_eq_false (by omega)
            have e8 : decide (k < k) = false := decide_eq_false (by omega)
            refine regN_start (N := 14) (S := (fun _ => True)) (by kernel_rfl) ?_
            change wpAnyN _ _ _ _ _ _ _ #[false, false, false, false, false, false, false, false, false, false, false, false, false, false, false] _ (World.drew _)
            have hS0 := trivial
            refine regN_takeC [4, 3] (i := 0) (d := (some 14)) (v := ?v6d1) (l2 := #[true, false, false, false, false, false, false, false, false, false, false, false, false, false, false]) rfl rfl rfl (by kernel_rfl) (by kernel_rfl) (by kernel_rfl) (by kernel_rfl) (fun _ _ _ h => h) (by rfl) ?hv6d1 hS0 ?h6d1
            case hv6d1 => intro u hSu; clear hSu; go_simp; (try with_reducible rfl)
            (try simp only [Act.put, List.setIfInBounds_toArray, List.set_cons_zero, List.set_cons_succ])
            refine regN_takeC [4, 3, 2] (i := 1) (d := (some 15)) (v := ?v6d2) (l2 := #[true, true, false, false, false, false, false, false, false, false, false, false, false, false, false]) rfl rfl rfl (by kernel_rfl) (by kernel_rfl) (by kernel_rfl) (by kernel_rfl) (fun _ _ _ h => h) (by rfl) ?hv6d2 hS0 ?h6d2
            case hv6d2 => intro u hSu; clear hSu; go_simp; (try with_reducible rfl)
            (try simp only [Act.put, List.setIfInBounds_toArray, List.set_cons_zero, List.set_cons_succ])
            refine regN_takeC [4, 3] (i := 2) (d := (some 16)) (v := ?v6d3) (l2 := #[true, true, true, false, false, false, false, false, false, false, false, false, false, false, false]) rfl rfl rfl (by kernel_rfl) (by kernel_rfl) (by kernel_rfl) (by kernel_rfl) (fun _ _ _ h => h) (by rfl) ?hv6d3 hS0 ?h6d3
            case hv6d3 => intro u hSu; clear hSu; go_simp; (try with_reducible rfl)
            (try simp only [Act.put, List.setIfInBounds_toArray, List.set_cons_zero, List.set_cons_succ])
            refine regN_takeC [4] (i := 3) (d := (some 17)) (v := ?v6d4) (l2 := #[true, true, true, true, false, false, false, false, false, false, false, false, false, false, false]) rfl rfl rfl (by kernel_rfl) (by kernel_rfl) (by kernel_rfl) (by kernel_rfl) (fun _ _ _ h => h) (by rfl) ?hv6d4 hS0 ?h6d4
            case hv6d4 => intro u hSu; clear hSu; go_simp; (try with_reducible rfl)
            (try simp only [Act.put, List.setIfInBounds_toArray, List.set_cons_zero, List.set_cons_succ])
            refine regN_take (i := 4) (d := (some 18)) (v := ?v6d5) (l2 := #[true, true, true, true, true, false, false, false, false, false, false, false, false, false, false]) rfl rfl rfl (by kernel_rfl) (by kernel_rfl) (by kernel_rfl) (by kernel_rfl) (fun _ _ _ h => h) (by rfl) ?hv6d5 hS0 ?h6d5
            case hv6d5 => intro u hSu; clear hSu; go_simp; (try with_reducible rfl)
            (try simp only [Act.put, List.setIfInBounds_toArray, List.set_cons_zero, List.set_cons_succ])
            refine regN_skipC [13, 8, 7] (i := 5) (d := (some 19)) (l2 := #[true, true, true, true, true, true, false, false, false, false, false, false, false, false, false]) rfl rfl rfl (by kernel_rfl) (by kernel_rfl) (by kernel_rfl) (by kernel_rfl) (fun _ _ _ h => h) (by rfl) hS0 ?_
            (try simp only [Act.put, List.setIfInBounds_toArray, List.set_cons_zero, List.set_cons_succ])
            refine regN_skipC [13, 8, 7] (i := 6) (d := (some 20)) (l2 := #[true, true, true, true, true, true, true, false, false, false, false, false, false, false, false]) rfl rfl rfl (by kernel_rfl) (by kernel_rfl) (by kernel_rfl) (by kernel_rfl) (fun _ _ _ h => h) (by rfl) hS0 ?_
            (try simp only [Act.put, List.setIfInBounds_toArray, List.set_cons_zero, List.set_cons_succ])
            refine regN_skipC [13, 8] (i := 7) (d := (some 21)) (l2 := #[true, true, true, true, true, true, true, true, false, false, false, false, false, false, false]) rfl rfl rfl (by kernel_rfl) (by kernel_rfl) (by kernel_rfl) (by kernel_rfl) (fun _ _ _ h => h) (by rfl) hS0 ?_
            (try simp only [Act.put, List.setIfInBounds_toArray, List.set_cons_zero, List.set_cons_succ])
            refine regN_skipC [13] (i := 8) (d := (some 22)) (l2 := #[true, true, true, true, true, true, true, true, true, false, false, false, false, false, false]) rfl rfl rfl (by kernel_rfl) (by kernel_rfl) (by kernel_rfl) (by kernel_rfl) (fun _ _ _ h => h) (by rfl) hS0 ?_
            (try simp only [Act.put, List.setIfInBounds_toArray, List.set_cons_zero, List.set_cons_succ])
            refine regN_skipC [13, 12, 11] (i := 9) (d := (some 23)) (l2 := #[true, true, true, true, true, true, true, true, true, true, false, false, false, false, false]) rfl rfl rfl (by kernel_rfl) (by kernel_rfl) (by kernel_rfl) (by kernel_rfl) (fun _ _ _ h => h) (by rfl) hS0 ?_
            (try simp only [Act.put, List.setIfInBounds_toArray, List.set_cons_zero, List.set_cons_succ])
            refine regN_skipC [13, 12, 11] (i := 10) (d := (some 24)) (l2 := #[true, true, true, true, true, true, true, true, true, true, true, false, false, false, false]) rfl rfl rfl (by kernel_rfl) (by kernel_rfl) (by kernel_rfl) (by kernel_rfl) (fun _ _ _ h => h) (by rfl) hS0 ?_
            (try simp only [Act.put, List.setIfInBounds_toArray, List.set_cons_zero, List.set_cons_succ])
            refine regN_skipC [13, 12] (i := 11) (d := (some 25)) (l2 := #[true, true, true, true, true, true, true, true, true, true, true, true, false, false, false]) rfl rfl rfl (by kernel_rfl) (by kernel_rfl) (by kernel_rfl) (by kernel_rfl) (fun _ _ _ h => h) (by rfl) hS0 ?_
            (try simp only [Act.put, List.setIfInBounds_toArray, List.set_cons_zero, List.set_cons_succ])
            refine regN_skipC [13] (i := 12) (d := (some 26)) (l2 := #[true, true, true, true, true, true, true, true, true, true, true, true, true, false, false]) rfl rfl rfl (by kernel_rfl) (by kernel_rfl) (by kernel_rfl) (by kernel_rfl) (fun _ _ _ h => h) (by rfl) hS0 ?_
            (try simp only [Act.put, List.setIfInBounds_toArray, List.set_cons_zero, List.set_cons_succ])
            refine regN_skip (i := 13) (d := (some 27)) (l2 := #[true, true, true, true, true, true, true, true, true, true, true, true, true, true, false]) rfl rfl rfl (by kernel_rfl) (by kernel_rfl) (by kernel_rfl) (by kernel_rfl) (fun _ _ _ h => h) (by rfl) hS0 ?_
            (try simp only [Act.put, List.setIfInBounds_toArray, List.set_cons_zero, List.set_cons_succ])
            refine regN_ready (rs := [14]) (by kernel_rfl) (by simp) ?_
            refine (AllN.cons (i := 14) (l2 := #[true, true, true, true, true, true, true, true, true, true, true, true, true, true, true]) rfl rfl (fun K hK => ?_) AllN.nil)
            go_simp
            refine hK _ _ (fun h => absurd rfl h) ?_
            clear hK K
            (try simp only [Act.put, List.setIfInBounds_toArray, List.set_cons_zero, List.set_cons_succ])
            refine regN_done (by kernel_rfl) ?_ _
            go_upto_region 8 with fail
            refine regN_start (N := 14) (S := (fun _ => True)) (by kernel_rfl) ?_
            change wpAnyN _ _ _ _ _ _ _ #[false, false, false, false, false, false, false, false, false, false, false, false, false, false, false] _ (World.drew _)
            have hS0 := trivial
            refine regN_takeC [4, 3] (i := 0) (d := (some 31)) (v := ?v8d1) (l2 := #[true, false, false, false, false, false, false, false, false, false, false, false, false, false, false]) rfl rfl rfl (by kernel_rfl) (by kernel_rfl) (by kernel_rfl) (by kernel_rfl) (fun _ _ _ h => h) (by rfl) ?hv8d1 hS0 ?h8d1
            case hv8d1 => intro u hSu; clear hSu; go_simp; (try with_reducible rfl)
            (try simp only [Act.put, List.setIfInBounds_toArray, List.set_cons_zero, List.set_cons_succ])
            refine regN_takeC [4, 3, 2] (i := 1) (d := (some 32)) (v := ?v8d2) (l2 := #[true, true, false, false, false, false, false, false, false, false, false, false, false, false, false]) rfl rfl rfl (by kernel_rfl) (by kernel_rfl) (by kernel_rfl) (by kernel_rfl) (fun _ _ _ h => h) (by rfl) ?hv8d2 hS0 ?h8d2
            case hv8d2 => intro u hSu; clear hSu; go_simp; (try with_reducible rfl)
            (try simp only [Act.put, List.setIfInBounds_toArray, List.set_cons_zero, List.set_cons_succ])
            refine regN_takeC [4, 3] (i := 2) (d := (some 33)) (v := ?v8d3) (l2 := #[true, true, true, false, false, false, false, false, false, false, false, false, false, false, false]) rfl rfl rfl (by kernel_rfl) (by kernel_rfl) (by kernel_rfl) (by kernel_rfl) (fun _ _ _ h => h) (by rfl) ?hv8d3 hS0 ?h8d3
            case hv8d3 => intro u hSu; clear hSu; go_simp; (try with_reducible rfl)
            (try simp only [Act.put, List.setIfInBounds_toArray, List.set_cons_zero, List.set_cons_succ])
            refine regN_takeC [4] (i := 3) (d := (some 34)) (v := ?v8d4) (l2 := #[true, true, true, true, false, false, false, false, false, false, false, false, false, false, false]) rfl rfl rfl (by kernel_rfl) (by kernel_rfl) (by kernel_rfl) (by kernel_rfl) (fun _ _ _ h => h) (by rfl) ?hv8d4 hS0 ?h8d4
            case hv8d4 => intro u hSu; clear hSu; go_simp; (try with_reducible rfl)
            (try simp only [Act.put, List.setIfInBounds_toArray, List.set_cons_zero, List.set_cons_succ])
            refine regN_take (i := 4) (d := (some 35)) (v := ?v8d5) (l2 := #[true, true, true, true, true, false, false, false, false, false, false, false, false, false, false]) rfl rfl rfl (by kernel_rfl) (by kernel_rfl) (by kernel_rfl) (by kernel_rfl) (fun _ _ _ h => h) (by rfl) ?hv8d5 hS0 ?h8d5
            case hv8d5 => intro u hSu; clear hSu; go_simp; (try with_reducible rfl)
            (try simp only [Act.put, List.setIfInBounds_toArray, List.set_cons_zero, List.set_cons_succ])
            refine regN_skipC [13, 8, 7] (i := 5) (d := (some 36)) (l2 := #[true, true, true, true, true, true, false, false, false, false, false, false, false, false, false]) rfl rfl rfl (by kernel_rfl) (by kernel_rfl) (by kernel_rfl) (by kernel_rfl) (fun _ _ _ h => h) (by rfl) hS0 ?_
            (try simp only [Act.put, List.setIfInBounds_toArray, List.set_cons_zero, List.set_cons_succ])
            refine regN_skipC [13, 8, 7] (i := 6) (d := (some 37)) (l2 := #[true, true, true, true, true, true, true, false, false, false, false, false, false, false, false]) rfl rfl rfl (by kernel_rfl) (by kernel_rfl) (by kernel_rfl) (by kernel_rfl) (fun _ _ _ h => h) (by rfl) hS0 ?_
            (try simp only [Act.put, List.setIfInBounds_toArray, List.set_cons_zero, List.set_cons_succ])
            refine regN_skipC [13, 8] (i := 7) (d := (some 38)) (l2 := #[true, true, true, true, true, true, true, true, false, false, false, false, false, false, false]) rfl rfl rfl (by kernel_rfl) (by kernel_rfl) (by kernel_rfl) (by kernel_rfl) (fun _ _ _ h => h) (by rfl) hS0 ?_
            (try simp only [Act.put, List.setIfInBounds_toArray, List.set_cons_zero, List.set_cons_succ])
            refine regN_skipC [13] (i := 8) (d := (some 39)) (l2 := #[true, true, true, true, true, true, true, true, true, false, false, false, false, false, false]) rfl rfl rfl (by kernel_rfl) (by kernel_rfl) (by kernel_rfl) (by kernel_rfl) (fun _ _ _ h => h) (by rfl) hS0 ?_
            (try simp only [Act.put, List.setIfInBounds_toArray, List.set_cons_zero, List.set_cons_succ])
            refine regN_skipC [13, 12, 11] (i := 9) (d := (some 40)) (l2 := #[true, true, true, true, true, true, true, true, true, true, false, false, false, false, false]) rfl rfl rfl (by kernel_rfl) (by kernel_rfl) (by kernel_rfl) (by kernel_rfl) (fun _ _ _ h => h) (by rfl) hS0 ?_
            (try simp only [Act.put, List.setIfInBounds_toArray, List.set_cons_zero, List.set_cons_succ])
            refine regN_skipC [13, 12, 11] (i := 10) (d := (some 41)) (l2 := #[true, true, true, true, true, true, true, true, true, true, true, false, false, false, false]) rfl rfl rfl (by kernel_rfl) (by kernel_rfl) (by kernel_rfl) (by kernel_rfl) (fun _ _ _ h => h) (by rfl) hS0 ?_
            (try simp only [Act.put, List.setIfInBounds_toArray, List.set_cons_zero, List.set_cons_succ])
            refine regN_skipC [13, 12] (i := 11) (d := (some 42)) (l2 := #[true, true, true, true, true, true, true, true, true, true, true, true, false, false, false]) rfl rfl rfl (by kernel_rfl) (by kernel_rfl) (by kernel_rfl) (by kernel_rfl) (fun _ _ _ h => h) (by rfl) hS0 ?_
            (try simp only [Act.put, List.setIfInBounds_toArray, List.set_cons_zero, List.set_cons_succ])
            refine regN_skipC [13] (i := 12) (d := (some 43)) (l2 := #[true, true, true, true, true, true, true, true, true, true, true, true, true, false, false]) rfl rfl rfl (by kernel_rfl) (by kernel_rfl) (by kernel_rfl) (by kernel_rfl) (fun _ _ _ h => h) (by rfl) hS0 ?_
            (try simp only [Act.put, List.setIfInBounds_toArray, List.set_cons_zero, List.set_cons_succ])
            refine regN_skip (i := 13) (d := (some 44)) (l2 := #[true, true, true, true, true, true, true, true, true, true, true, true, true, true, false]) rfl rfl rfl (by kernel_rfl) (by kernel_rfl) (by kernel_rfl) (by kernel_rfl) (fun _ _ _ h => h) (by rfl) hS0 ?_
            (try simp only [Act.put, List.setIfInBounds_toArray, List.set_cons_zero, List.set_cons_succ])
            refine regN_ready (rs := [14]) (by kernel_rfl) (by simp) ?_
            refine (AllN.cons (i := 14) (l2 := #[true, true, true, true, true, true, true, true, true, true, true, true, true, true, true]) rfl rfl (fun K hK => ?_) AllN.nil)
            go_simp
            refine hK _ _ (fun h => absurd rfl h) ?_
            clear hK K
            (try simp only [Act.put, List.setIfInBounds_toArray, List.set_cons_zero, List.set_cons_succ])
            refine regN_done (by kernel_rfl) ?_ _
            have HB2 := Lib.hid (show Below w.heap.size w wr.drew.drew from HBi.out.drew.drew)
            have HO2 := Lib.hid (show wr.drew.drew.ownsRow w.heap.size 9 1 (.slice (some ⟨g, 0, none⟩) k d) k (strs R) from HOi.out)
            clear HBi HOi
            generalize wr.drew.drew = W at HB2 HO2 ⊢
            have hmd : k ≤ d := by obtain ⟨_, _, e, h1, _⟩ := own_shape HO2.out; injection e with _ _ e3; omega
            have hgW : g < W.heap.size := (HO2.out.lt g rfl).2
            have hwW := HB2.out.size
            have HR0 := Lib.hid (SRow.of_own HO2.out).1
            have hcw := (HB2.out.cell (p := ⟨f, o + i, none⟩) hf).trans HCI.out
            have HCW := Lib.hid hcw
            clear hcw
            have hkd : k ≤ d := by omega
            have hkmm : k ≤ k := by omega
            have hkdi : (k : Int) ≤ (d : Int) := by omega
            have hkmi : (k : Int) ≤ (k : Int) := by omega
            have hmdi : (k : Int) ≤ (d : Int) := by omega
            go_upto_region 10 with (at_builtin; refine wpList_append_strsL rfl _ _ rfl W.heap.size 0 k d W.heap.size 0 _ [] (R.take k) (some ⟨g, 0, none⟩) rfl (own_lit0T (Nat.le_refl _)) rfl ((HR0.out.take k).up (below_al (Below.refl _ _) _)) (by rw [List.length_take, HM.out]; omega) (fun h => by cases h) (by omega) (by rw [World.size_alloc]; omega) ?_; intro g2 cap2 w2 ho2 hg2 hl2; rw [Nat.zero_add] at ho2 ⊢; have O2 := Lib.hid ho2; have HBa := Lib.hid ((below_al (Below.refl W.heap.size W) (.cells #[] 9)).trans (grown_below hg2 (fun k hk => by injection hk with hk; omega) (by rw [World.size_alloc]; omega))); clear ho2 hg2 hl2)
            have hsa := HBa.out.size
            have hci2 : w2.cell? ⟨f, o + i, none⟩ = some (.string s) := (HBa.out.cell (p := ⟨f, o + i, none⟩) (Nat.lt_of_lt_of_le hf hwW)).trans HCW.out
            go_upto_region 11 with (at_builtin; refine wpList_append_strsL rfl _ _ rfl W.heap.size k 1 1 g2 cap2 _ (R.take k) [s] (some ⟨w2.heap.size, 0, none⟩) rfl (O2.out.alloc _) rfl (srow_new _ _) rfl (fun h => by cases h) (by omega) (by rw [World.size_alloc]; omega) ?_; intro g3 cap3 w3 ho3 hg3 hl3; have O3 := Lib.hid ho3; have HBb := Lib.hid ((below_al HBa.out (.cells #[.string s] 9)).trans (grown_below hg3 (fun k hk => (O2.out.lt k hk).1) (by rw [World.size_alloc]; omega))); clear ho3 hg3 hl3)
            have hsb := HBb.out.size
            clear hci2
            by_cases hkd0 : k = d
            · subst hkd0
              go_wp2_with (at_builtin; refine wpList_append_strsL rfl _ _ rfl W.heap.size (k + 1) 0 0 g3 cap3 _ (R.take k ++ [s]) (R.drop k) (some ⟨g, 0, none⟩) rfl O3.out ?_ (Or.inl (List.drop_of_length_le (by rw [HM.out]; omega)) : SRow w3 0 _ _) (by rw [List.length_drop, HM.out]; omega) (fun h => by cases h) (by omega) hsb ?_; rotate_left; intro g4 cap4 w4 ho4 hg4 hl4; have O4 := Lib.hid ho4; have HBc := Lib.hid (HBb.out.trans (grown_below hg4 (fun k hk => (O3.out.lt k hk).1) hsb)); clear ho4 hg4 hl4)
              go_roundw
              case rel => exact ⟨i + 1, by omega, by go_num, ⟨⟨R.take k ++ [s] ++ R.drop k, _, g4, cap4, HI.out, by rw [List.length_append, List.length_append, List.length_take, List.length_drop, HM.out]; simp <;> omega, rfl, own_base O4.out hwW⟩, below_on HB2.out HBc.out⟩⟩
              case measure => simp [intOf] <;> omega
              case refine_1 => first | (go_simp; done) | (simp; done) | (simp [Act.eval]; done) | skip
            · go_wp2_with (at_builtin; refine wpList_append_strsL rfl _ _ rfl W.heap.size (k + 1) 0 (d - k) g3 cap3 _ (R.take k ++ [s]) (R.drop k) (some ⟨g, 0 + k, none⟩) rfl O3.out ?_ ((HR0.out.drop k).up HBb.out) (by rw [List.length_drop, HM.out]; omega) (fun h => by cases h) (by omega) hsb ?_; rotate_left; intro g4 cap4 w4 ho4 hg4 hl4; have O4 := Lib.hid ho4; have HBc := Lib.hid (HBb.out.trans (grown_below hg4 (fun k hk => (O3.out.lt k hk).1) hsb)); clear ho4 hg4 hl4)
              go_roundw
              case rel => exact ⟨i + 1, by omega, by go_num, ⟨⟨R.take k ++ [s] ++ R.drop k, _, g4, cap4, HI.out, by rw [List.length_append, List.length_append, List.length_take, List.length_drop, HM.out]; simp <;> omega, rfl, own_base O4.out hwW⟩, below_on HB2.out HBc.out⟩⟩
              case measure => simp [intOf] <;> omega
              case refine_1 => first | (go_simp; done) | (simp [hkd0]; done) | (simp [Act.eval, hkd0]; done) | skip
    · obtain rfl : i = n := by omega
      have hfin : rsL L = R := by rw [← HR.out, ← HN.out, List.take_length]
      rw [hfin]
      have hlen := HM.out
      go_wp2
      go_ret
      exact ⟨_, rfl, by rw [hfin, hlen]; exact HO.out, HB.out⟩
end Go.Proofs.YthifmcnemeiphaaDoor
