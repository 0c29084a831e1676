/- Layer 8: Encode, in the reference. -/
import Derived.Test.YtpghkdmljanncaaInRp
namespace Go.Proofs.Ytpghkdmljanncaa
open Go.ChangeShapes Go.WideShapes Go.ChangeAt Go.RowKit Go.PlainAid
set_option linter.unusedSimpArgs false
set_option linter.unusedVariables false

theorem rput8_any (i : In) (P : List Int) (A : Option Addr) (m c : Nat) (w : World) (hv : ciE i = 0) (hP : Row w w.heap.size A P) (hm : P.length = m) (hok : i.ok w w.heap.size) (hT : TgOk P i) :
    Calls Try.prog 63 #[(Value.agg #[Value.int IntKind.i64 (In.op i), Value.int IntKind.i64 (In.a i), Value.int IntKind.i64 (In.b i), Value.int IntKind.i64 (In.t i), Value.slice (In.kA i) (In.kn i) (In.kc i), Value.slice (In.tA i) (In.tn i) (In.tc i), Value.string (In.r1 i), Value.string (In.r2 i), Value.string (In.r3 i), Value.string (In.s i)]), .slice A m c] w fun e w' => e = .returned (.string (opB P i)) ∧ Below w.heap.size w w' := by
  have h7 : kindV i.op = 7 → i.tn = i.kn := fun k => ((szV_bd hv).2.2.2 (kind7.1 k)).2
  have ht : i.tn ≤ 100 := by have := valid_tn hv; omega
  rcases kind_bd i.op with k | k | k | k | k | k | k | k | k
  · have := (valid_parts hv).1; omega
  · exact rput8_0 i P A m c w k hP hm hok hT h7 ht
  · exact rput8_1 i P A m c w k hP hm hok hT h7 ht
  · exact rput8_2 i P A m c w k hP hm hok hT h7 ht
  · exact rput8_3 i P A m c w k hP hm hok hT h7 ht
  · exact rput8_4 i P A m c w k hP hm hok hT h7 ht
  · exact rput8_5 i P A m c w k hP hm hok hT h7 ht
  · exact rput8_6 i P A m c w k hP hm hok hT h7 ht
  · exact rput8_7 i P A m c w k hP hm hok hT h7 ht

set_option maxRecDepth 100000 in
set_option maxHeartbeats 2000000 in
theorem renc_any {w0 : World} {A : Option Addr} {n c : Nat} {L : List In} (hn : L.length = n) (hN : n ≤ 1000) (hz : ∀ i ∈ L, i.nz) (hp : Ins w0 w0.heap.size A L) (w : World) (hb : Below w0.heap.size w0 w) :
    Calls Try.prog 26 #[.slice A n c] w fun e w' => e = .returned (.tuple #[.string (enS L), .int .i64 (enE L)]) ∧ Below w.heap.size w w' := by
  have HO := Lib.hid (roffs_any (c := c) hn hN hp w hb)
  have HP := Lib.hid (hp.up hb)
  have HN := Lib.hid hn
  have HZ := Lib.hid hz
  clear hp hb hn hz
  by_cases h : ¬ ofE L = 0
  · have G := Lib.hid (en_1 h)
    have hne := bneT' h
    clear h
    go_enter Try.func26, Try.ntmps26
    go_wp2_with (go_at_call 22; refine HO.out.mono ?_; rintro e w1 ⟨A1, c1, rfl, _, _, _, hrow, hb1⟩)
    go_ret2
    exact ⟨by rw [G.out.1, G.out.2]; rfl, hb1⟩
  · replace h : ofE L = 0 := Classical.byContradiction h
    have HE := Lib.hid h
    have hlen : (ofP L).length = n + 1 := by rw [(of_ok h).2.2.2, ofN_len, HN.out]
    have HV := Lib.hid (of_ok h).1
    clear h
    go_enter Try.func26, Try.ntmps26
    go_upto_region 2 with (go_at_call 22; refine HO.out.mono ?_; rintro e w1 ⟨A1, c1, rfl, _, _, _, hrow, hb1⟩; rw [HE.out, hlen])
    have HR := Lib.hid hrow
    have HB1 := Lib.hid hb1
    clear hrow hb1 HO
    go_wp2
    go_loopw [6] (fun x wr => ∃ k : Nat, k ≤ n ∧ x = .int .i64 k ∧ (∀ (j : Nat) (i : In), j < k → L[j]? = some i → ∀ x ∈ tgL i, x < L.length) ∧ Below w1.heap.size w1 wr) (fun x _ => n - (intOf x).toNat)
    case atStart => exact ⟨0, Nat.zero_le _, rfl, fun j i hj => absurd hj (Nat.not_lt_zero _), Below.refl _ _⟩
    case round =>
      obtain ⟨k, hk, rfl, hall, hBr⟩ := hrel
      have HA := Lib.hid hall
      clear hall
      by_cases hlt : k < n
      · obtain ⟨i, hp⟩ := list_get HN.out hlt
        have HPW := Lib.hid (HP.out.up (below_on HB1.out hBr))
        rcases HPW.out with h0 | ⟨g, o, rfl, hg, hcell⟩
        · rw [h0] at hp; simp at hp
        · obtain ⟨iok, a0, a1, a2, a3, a4, a5, a6, a7, a8, a9⟩ := hcell k _ hp
          have IOK := Lib.hid iok
          have HPK := Lib.hid hp
          clear hcell iok hp
          have hk0 : (0 : Int) ≤ (k : Int) := by omega
          have hk1 : (k : Int) < (n : Int) := by omega
          have HTN := Lib.hid (show i.tn ≤ 1000000 by have := valid_tn (chkE_all HV.out k i HPK.out); omega)
          have HNZ := Lib.hid (HZ.out i (List.mem_of_getElem? HPK.out))
          have HBR := Lib.hid hBr
          clear hBr
          go_upto_region 9 with (go_at_call 20; refine (rtg_any i _ (IOK.out.up (by first | exact Below.refl _ _ | exact below_al (Below.refl _ _) _)) HNZ.out HTN.out).mono ?_; rintro e w2 ⟨A2, c2, rfl, _, _, _, hr2, hb2⟩)
          have HB2 := Lib.hid (below_on (below_on HB1.out HBR.out) hb2)
          have HB3 := Lib.hid (below_on HBR.out hb2)
          have HR2 := Lib.hid hr2
          clear hb2 hr2
          obtain ⟨M, hM⟩ : ∃ M, tgL i = M := ⟨_, rfl⟩
          have HM := Lib.hid hM
          rw [hM] at HR2
          have hm2 : (tgL i).length = M.length := by rw [hM]
          rw [hm2]
          clear hM hm2
          obtain ⟨m2, hm2⟩ : ∃ m2, M.length = m2 := ⟨_, rfl⟩
          have HM2 := Lib.hid hm2
          rw [hm2]
          have hmb : m2 ≤ 101 := by rw [← hm2, ← HM.out]; exact tgL_len (HP.out.valid HV.out i (List.mem_of_getElem? HPK.out)).1
          clear hm2
          go_loopw [8] (fun x wr => ∃ j : Nat, j ≤ m2 ∧ x = .int .i64 j ∧ (∀ (q : Nat) (y : Int), q < j → M[q]? = some y → y < L.length) ∧ wr = w2) (fun x _ => m2 - (intOf x).toNat)
          case atStart => exact ⟨0, Nat.zero_le _, rfl, fun q y hq => absurd hq (Nat.not_lt_zero _), rfl⟩
          case round =>
            obtain ⟨j, hj, rfl, hyy, rfl⟩ := hrel
            have HY := Lib.hid hyy
            clear hyy
            by_cases hlt2 : j < m2
            · obtain ⟨g2, o2, rfl, hg2, hc2⟩ := HR2.out.at (by rw [HM2.out]; omega)
              obtain ⟨y, hy⟩ := int_get (L := M) (k := j) (by rw [HM2.out]; exact hlt2)
              have hcy := hc2 j (by rw [HM2.out]; exact hlt2)
              rw [List.getD_eq_getElem?_getD, hy] at hcy
              simp only [Option.getD_some] at hcy
              have HYJ := Lib.hid hy
              have hj0 : (0 : Int) ≤ (j : Int) := by omega
              have hj1 : (j : Int) < (m2 : Int) := by omega
              clear hc2 hy
              by_cases hyn : y < (n : Int)
              · go_wp2
                go_roundw
                case rel =>
                  refine ⟨j + 1, hlt2, by go_num, fun q z hq hz => ?_, trivial⟩
                  rcases (by omega : q < j ∨ q = j) with h | rfl
                  · exact HY.out q z h hz
                  · rw [HYJ.out] at hz
                    injection hz with hz
                    rw [← hz, HN.out]; exact hyn
                case measure => simp [intOf]; omega
              · have G := Lib.hid (en_2 HE.out (tgA_no (x := y) (j := j) HPK.out (by rw [HM.out]; exact HYJ.out) (by rw [HN.out]; exact hyn)))
                go_wp2
                go_ret2
                exact ⟨by rw [G.out.1, G.out.2]; rfl, HB2.out⟩
            · obtain ⟨rfl⟩ : m2 = j := by omega
              go_wp2
              go_roundw
              case rel =>
                refine ⟨k + 1, hlt, by go_num, fun j x hj hx => ?_, HB3.out⟩
                rcases (by omega : j < k ∨ j = k) with h | rfl
                · exact HA.out j x h hx
                · rw [HPK.out] at hx
                  injection hx with hx
                  rw [← hx, HM.out]
                  intro y hy
                  obtain ⟨q, hq, he⟩ := List.getElem_of_mem hy
                  exact HY.out q y (by rw [HM2.out] at hq; exact hq) (by rw [List.getElem?_eq_getElem hq, he])
              case measure => simp [intOf]; omega
      · obtain ⟨rfl⟩ : n = k := by omega
        have HT := Lib.hid (tgA_yes (L := L) fun j i hj => HA.out j i (by
          rcases Nat.lt_or_ge j n with h | h
          · exact h
          · rw [List.getElem?_eq_none (by rw [HN.out]; exact h)] at hj; cases hj) hj)
        have G := Lib.hid (en_3 HE.out HT.out)
        have HBR := Lib.hid hBr
        clear HA hBr
        obtain ⟨wv, rfl⟩ : ∃ wv, wv = wr := ⟨_, rfl⟩
        go_wp2
        go_loopw [9, 10] (fun s x wz => ∃ k : Nat, k ≤ n ∧ x = .int .i64 k ∧ s = .string (enP (ofP L) (L.take k)) ∧ Below wv.heap.size wv wz) (fun _ x _ => n - (intOf x).toNat)
        case atStart => exact ⟨0, Nat.zero_le _, rfl, rfl, Below.refl _ _⟩
        case round =>
          obtain ⟨k, hk, rfl, rfl, hBz⟩ := hrel
          have HBZ := Lib.hid hBz
          clear hBz
          have HRR := Lib.hid ((HR.out.up HBR.out).up HBZ.out)
          by_cases hlt : k < n
          · obtain ⟨i, hp⟩ := list_get HN.out hlt
            have HPW := Lib.hid ((HP.out.up (below_on HB1.out HBR.out)).up HBZ.out)
            rcases HPW.out with h0 | ⟨g, o, rfl, hg, hcell⟩
            · rw [h0] at hp; simp at hp
            · obtain ⟨iok, a0, a1, a2, a3, a4, a5, a6, a7, a8, a9⟩ := hcell k _ hp
              have IOK := Lib.hid iok
              have HPK := Lib.hid hp
              have hk0 : (0 : Int) ≤ (k : Int) := by omega
              have hk1 : (k : Int) < (n : Int) := by omega
              have hv := chkE_all HV.out k i hp
              have HT1 := Lib.hid (show TgOk (ofP L) i from fun x hx => ⟨(valid_tg hv x hx).1, by have := tgA_at HT.out (List.mem_of_getElem? HPK.out) x hx; rw [HN.out] at this; omega⟩)
              have HVI := Lib.hid hv
              have hvi := HP.out.valid HV.out i (List.mem_of_getElem? HPK.out)
              have hsz : (enP (ofP L) (L.take k)).size ≤ 1000000000 := by
                have h1 := enP_size (ofP L) (L.take k) (fun i hi => HP.out.valid HV.out i (List.mem_of_mem_take hi)) ⟨#[]⟩
                rw [List.length_take] at h1
                have h2 : (⟨#[]⟩ : ByteArray).size = 0 := rfl
                unfold enP
                omega
              have hs2 := opB_size (ofP L) i hvi.1 hvi.2
              obtain ⟨acc, hacc⟩ : ∃ acc, enP (ofP L) (L.take k) = acc := ⟨_, rfl⟩
              rw [hacc] at hsz ⊢
              have HACC := Lib.hid hacc
              have f9 : ¬ 9223372036854775807 < acc.size + (opB (ofP L) i).size := by omega
              clear hcell iok hp hv hsz hs2 hvi hacc
              go_wp2_with (go_at_call 63; refine (rput8_any i (ofP L) A1 (n + 1) c1 _ HVI.out HRR.out hlen IOK.out HT1.out).mono ?_; rintro e w3 ⟨rfl, hb3⟩)
              go_roundw
              case rel => exact ⟨k + 1, hlt, by go_num, by rw [enP_take HPK.out, HACC.out], below_on HBZ.out hb3⟩
              case measure => simp [intOf]; omega
          · obtain ⟨rfl⟩ : n = k := by omega
            go_wp2
            go_ret2
            exact ⟨by rw [G.out.1, G.out.2]; rw [show enP (ofP L) (L.take n) = enP (ofP L) L from by rw [List.take_of_length_le (by rw [HN.out]; exact Nat.le_refl _)]]; rfl, below_on (below_on HB1.out HBR.out) HBZ.out⟩

end Go.Proofs.Ytpghkdmljanncaa
