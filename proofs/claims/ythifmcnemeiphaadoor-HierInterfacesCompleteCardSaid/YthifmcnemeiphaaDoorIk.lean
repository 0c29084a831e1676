/- Layer 16: the law of complete interfaces. -/
import Derived.Test.YthifmcnemeiphaaDoorIj
import Derived.Test.YthifmcnemeiphaaDoorReg
namespace Go.Proofs.YthifmcnemeiphaaDoor
open Go.ChangeShapes Go.WideShapes Go.ChangeAt Go.RowKit Go.PlainAid Go.Maps
set_option linter.unusedSimpArgs false
set_option linter.unusedVariables false

theorem ifL_size {L : List CI} {A : Option Addr} {w : World} (h : CIs w w.heap.size A L) (hv : VH L) (a s : ByteArray) (hs : s ∈ ifL L a) : s.size ≤ 9223372036854775807 := by
  obtain ⟨x, _, h2, h3⟩ := nm_place (ifL_spec hv a hs).1
  rw [← h2, ← h3]
  exact (lkC_ok h s).1
theorem ifL_le (L : List CI) (a : ByteArray) : (ifL L a).length ≤ L.length := by
  rw [← ifN_all]
  exact ifN_le L a _
set_option maxRecDepth 100000 in
set_option maxHeartbeats 4000000 in
theorem icomplete_law (A : Option Addr) (n c : Nat) (L : List CI) (a : ByteArray) (w : World) (hn : L.length = n) (hcap : n ≤ c) (hcm : c ≤ 9223372036854775807) (h : CIs w w.heap.size A L) (ha : a.size ≤ 9223372036854775807) :
    Calls Tryd.prog 7 #[.slice A n c, .string a] w fun e w' => e = .returned (.bool true) ∧ Below w.heap.size w w' := by
  have HL := Lib.hid h
  have HN := Lib.hid hn
  have HF := Lib.hid (right_any A n c L w hn hcap hcm h)
  clear h hn
  cases hs : rgB L with
  | false =>
    rw [hs] at HF
    clear hs
    go_enter Tryd.func7, Tryd.ntmps7
    go_wp2_with (first | (go_at_call 19; (with_reducible refine (HF.out).mono ?_); rintro e w1 ⟨rfl, hb1⟩; have HB1 := Lib.hid hb1; clear hb1) | (go_at_call 16; (with_reducible refine (awake16_any _).mono ?_); rintro e w2 ⟨rfl, hb2⟩; have HB2 := Lib.hid (below_on HB1.out hb2); clear hb2))
    go_ret
    exact ⟨rfl, HB2.out⟩
  | true =>
    rw [hs] at HF
    obtain ⟨hsm, hv⟩ := rgB_iff.1 hs
    have HV := Lib.hid hv
    have hn60 : n ≤ 60 := by rw [← HN.out]; exact hsm.1
    clear hs hsm hv
    obtain ⟨x, hx⟩ : ∃ x, lkC L a = x := ⟨_, rfl⟩
    obtain ⟨fa, hfa⟩ : ∃ f, fB L a = f := ⟨_, rfl⟩
    have KA := Lib.hid (fun (W : World) (h : Below w.heap.size w W) => by have q := lookup_any A n c L a W HN.out (by omega) (HL.out.up h); rw [hx, hfa] at q; exact q)
    have KS := Lib.hid (fun (s : ByteArray) (W : World) (h : Below w.heap.size w W) => lookup_any A n c L s W HN.out (by omega) (HL.out.up h))
    have HC := Lib.hid (fun (x y : ByteArray) (W : World) (hx : x.size ≤ 9223372036854775807) (hy : y.size ≤ 9223372036854775807) (hb : Below w.heap.size w W) => sub_any A n c L x y W HN.out (by omega) (HL.out.up hb) hx hy)
    obtain ⟨P, hP⟩ : ∃ P, ifL L a = P := ⟨_, rfl⟩
    have IF := Lib.hid (fun (W : World) (h : Below w.heap.size w W) => by have q := ifs_any A n c L a W HN.out (by omega) (HL.out.up h) ha; rw [hP] at q; exact q)
    have HPS := Lib.hid (fun (s : ByteArray) (h : s ∈ P) => show (fB L s = true ∧ (lkC L s).isI = true ∧ isV L a s = true) ∧ s.size ≤ 9223372036854775807 by subst hP; exact ⟨ifL_spec HV.out a h, ifL_size HL.out HV.out a s h⟩)
    have HPT := Lib.hid (fun (j : Nat) (h : j + 1 < P.length) => show Op.bytesLess (P[j]'(by omega)).toList P[j + 1].toList = true by subst hP; exact ifL_strict HV.out a j h)
    obtain ⟨N, hN⟩ : ∃ N, ifN L a = N := ⟨_, rfl⟩
    have HN0 := Lib.hid (show N 0 = 0 by rw [← hN]; exact ifN_zero L a)
    have HNS := Lib.hid (fun (k : Nat) (x : CI) (h : L[k]? = some x) => show N (k + 1) = N k + (if (fa && x.isI && isV L a x.nm) = true then 1 else 0) by rw [← hN, ← hfa]; exact ifN_step HV.out a h)
    have HNL := Lib.hid (fun k => show N k ≤ k by rw [← hN]; exact ifN_le L a k)
    obtain ⟨p, hp⟩ : ∃ p, P.length = p := ⟨_, rfl⟩
    have HNN := Lib.hid (show N n = p by rw [← hN, ← hp, ← hP, ← HN.out]; exact ifN_all L a)
    have hpn : p ≤ n := by rw [← hp, ← hP, ← HN.out]; exact ifL_le L a
    have HPL := Lib.hid hp
    clear hx hfa hP hN hp
    go_enter Tryd.func7, Tryd.ntmps7
    go_upto_region 4 with (first | (go_at_call 19; (with_reducible refine (HF.out).mono ?_); rintro e w1 ⟨rfl, hb1⟩; have HB1 := Lib.hid hb1; clear hb1) | (go_at_call 30; (with_reducible refine (IF.out _ HB1.out).mono ?_); rintro e w2 ⟨v2, rfl, ho2, hb2⟩; obtain ⟨pA, pc, rfl, hpc, _⟩ := own_shape ho2; have HO2 := Lib.hid ho2; have HB2 := Lib.hid (below_on HB1.out hb2); clear hb2 ho2))
    have HO3 := Lib.hid (show w2.ownsRow w1.heap.size 9 1 (.slice pA p pc) p (strs P) by have := HO2.out; rw [HPL.out] at this; exact this)
    rw [HPL.out] at hpc
    try rw [HPL.out]
    clear HO2
    go_wp2
    go_loopw [6] (fun jv wr => ∃ j : Nat, jv = .int .i64 j ∧ j ≤ p ∧ Hid (Below w.heap.size w wr) ∧ Hid (wr.ownsRow w1.heap.size 9 1 (.slice pA p pc) p (strs P))) (fun jv _ => p - (intOf jv).toNat)
    case atStart => exact ⟨0, rfl, Nat.zero_le _, HB2, HO3⟩
    case round =>
      obtain ⟨j, rfl, hj, HB, HO⟩ := hrel
      clear HO3 HB2 HB1
      by_cases hlt : j < p
      · have hjP : j < P.length := by rw [HPL.out]; exact hlt
        obtain ⟨g, rfl, kj, hgw, _⟩ := str_at (j := j) HO.out hjP HPL.out
        have row : ∀ (W : World) (h : W.ownsRow w1.heap.size 9 1 (.slice (some ⟨g, 0, none⟩) p pc) p (strs P)) (q : Nat) (hq : q < P.length), W.cell? ⟨g, q, none⟩ = some (.string P[q]) := by
          intro W h q hq
          obtain ⟨_, hq1, k1, _⟩ := str_at (j := q) h hq HPL.out
          obtain rfl : g = _ := by injection hq1 with h; injection h
          exact k1
        have HROW := Lib.hid row
        obtain ⟨⟨hfs, hks, his⟩, hsz⟩ := HPS.out P[j] (List.getElem_mem hjP)
        have KJ := Lib.hid (KS.out P[j] wr HB.out)
        obtain ⟨s, hs⟩ : ∃ s, P[j] = s := ⟨_, rfl⟩
        rw [hs] at kj hfs hks his hsz KJ
        clear row
        obtain ⟨k, hk⟩ : ∃ k, lkC L s = k := ⟨_, rfl⟩
        rw [hk, hfs] at KJ
        rw [hk] at hks
        have HKS := Lib.hid hks
        have KI := Lib.hid (fun (W : World) (h : Below w.heap.size w W) => HC.out a s W ha hsz h)
        have HIS := Lib.hid his
        have HSJ := Lib.hid hs
        clear hk hfs his hs hks
        go_upto_region 8 with (go_at_call 20; (with_reducible refine (KJ.out).mono ?_); rintro e w8 ⟨rfl, hb8⟩)
        have HBX := Lib.hid (World.alloc_heap_new w8 (.cells #[.string k.nm, .string k.su, .slice k.iA k.n k.c, .bool k.isI] 30))
        have HB9 := Lib.hid (below_al (below_on HB.out hb8) (.cells #[.string k.nm, .string k.su, .slice k.iA k.n k.c, .bool k.isI] 30))
        have HO9 := Lib.hid ((own_bel HO.out hb8).alloc (.cells #[.string k.nm, .string k.su, .slice k.iA k.n k.c, .bool k.isI] 30))
        generalize w8.alloc (.cells #[.string k.nm, .string k.su, .slice k.iA k.n k.c, .bool k.isI] 30) = W9 at HBX HB9 HO9 ⊢
        generalize w8.heap.size = B13 at HBX ⊢
        obtain ⟨⟨x0, x1, x2, x3⟩, _⟩ := four_cells HBX.out
        rw [HKS.out] at x3
        have hlb := lt_heap HBX.out
        have hg9 : g < W9.heap.size := (HO9.out.lt g rfl).2
        have k9 : W9.cell? ⟨g, j, none⟩ = some (.string s) := by rw [← HSJ.out]; exact HROW.out W9 HO9.out j hjP
        clear kj hb8 hgw
        cases j with
        | zero =>
          have hp0 : 0 < p := hlt
          refine regN_start (N := 32) (S := (fun W' => W'.cell? ⟨g, 0, none⟩ = some (.string s) ∧ W'.cell? ⟨B13, 3, none⟩ = some (.bool true) ∧ Below w.heap.size w W' ∧ W'.ownsRow w1.heap.size 9 1 (.slice (some ⟨g, 0, none⟩) p pc) p (strs P))) (by kernel_rfl) ?_
          change wpAnyN _ _ _ _ _ _ _ #[false, false, false, false, false, false, false, false, false, false, false, false, false, false, false, false, false, false, false, false, false, false, false, false, false, false, false, false, false, false, false, false, false] _ (World.drew _)
          have hS0 := (show (fun W' => W'.cell? ⟨g, 0, none⟩ = some (.string s) ∧ W'.cell? ⟨B13, 3, none⟩ = some (.bool true) ∧ Below w.heap.size w W' ∧ W'.ownsRow w1.heap.size 9 1 (.slice (some ⟨g, 0, none⟩) p pc) p (strs P)) W9.drew from ⟨k9, x3, HB9.out.drew, HO9.out⟩)
          refine regN_takeC [17, 16, 7, 2, 1] (i := 0) (d := (some 35)) (v := ?v8x1) (l2 := #[true, false, false, false, false, false, false, false, false, false, false, false, false, false, false, false, false, false, false, false, false, false, false, false, false, false, false, false, false, false, false, false, false]) rfl rfl rfl (by kernel_rfl) (by kernel_rfl) (by kernel_rfl) (by kernel_rfl) (fun _ _ _ h => h) (by rfl) ?hv8x1 hS0 ?h8x1
          case hv8x1 => intro u hSu; clear hSu; go_simp; (try with_reducible rfl)
          (try simp only [Act.put, List.setIfInBounds_toArray, List.set_cons_zero, List.set_cons_succ])
          refine regN_takeC [17, 16, 7, 2] (i := 1) (d := (some 36)) (v := ?v8x2) (l2 := #[true, true, false, false, false, false, false, false, false, false, false, false, false, false, false, false, false, false, false, false, false, false, false, false, false, false, false, false, false, false, false, false, false]) rfl rfl rfl (by kernel_rfl) (by kernel_rfl) (by kernel_rfl) (by kernel_rfl) (fun _ _ _ h => h) (by rfl) ?hv8x2 hS0 ?h8x2
          case hv8x2 => intro u hSu; clear hSu; go_simp; (try with_reducible rfl)
          (try simp only [Act.put, List.setIfInBounds_toArray, List.set_cons_zero, List.set_cons_succ])
          refine regN_takeC [17, 16, 7] (i := 2) (d := (some 37)) (v := ?v8x3) (l2 := #[true, true, true, false, false, false, false, false, false, false, false, false, false, false, false, false, false, false, false, false, false, false, false, false, false, false, false, false, false, false, false, false, false]) rfl rfl rfl (by kernel_rfl) (by kernel_rfl) (by kernel_rfl) (by kernel_rfl) (fun _ _ _ h => h) (by rfl) ?hv8x3 hS0 ?h8x3
          case hv8x3 => intro u hSu; clear hSu; go_simp; (try with_reducible rfl)
          (try simp only [Act.put, List.setIfInBounds_toArray, List.set_cons_zero, List.set_cons_succ])
          refine regN_takeC [17, 16, 7, 6, 5, 4] (i := 3) (d := (some 38)) (v := ?v8x4) (l2 := #[true, true, true, true, false, false, false, false, false, false, false, false, false, false, false, false, false, false, false, false, false, false, false, false, false, false, false, false, false, false, false, false, false]) rfl rfl rfl (by kernel_rfl) (by kernel_rfl) (by kernel_rfl) (by kernel_rfl) (fun _ _ _ h => h) (by rfl) ?hv8x4 hS0 ?h8x4
          case hv8x4 => intro u hSu; clear hSu; go_simp; (try with_reducible rfl)
          (try simp only [Act.put, List.setIfInBounds_toArray, List.set_cons_zero, List.set_cons_succ])
          refine regN_takeC [17, 16, 7, 6, 5] (i := 4) (d := (some 39)) (v := ?v8x5) (l2 := #[true, true, true, true, true, false, false, false, false, false, false, false, false, false, false, false, false, false, false, false, false, false, false, false, false, false, false, false, false, false, false, false, false]) rfl rfl rfl (by kernel_rfl) (by kernel_rfl) (by kernel_rfl) (by kernel_rfl) (fun _ _ _ h => h) (by rfl) ?hv8x5 hS0 ?h8x5
          case hv8x5 => intro u hSu; (try dsimp only at hSu); (try go_split_ands); go_simp; (try with_reducible rfl)
          (try simp only [Act.put, List.setIfInBounds_toArray, List.set_cons_zero, List.set_cons_succ])
          refine regN_takeC [17, 16, 7, 6] (i := 5) (d := (some 40)) (v := ?v8x6) (l2 := #[true, true, true, true, true, true, false, false, false, false, false, false, false, false, false, false, false, false, false, false, false, false, false, false, false, false, false, false, false, false, false, false, false]) rfl rfl rfl (by kernel_rfl) (by kernel_rfl) (by kernel_rfl) (by kernel_rfl) (fun _ _ _ h => h) (by rfl) ?hv8x6 hS0 ?h8x6
          case hv8x6 => intro u hSu; clear hSu; go_simp; (try with_reducible rfl)
          (try simp only [Act.put, List.setIfInBounds_toArray, List.set_cons_zero, List.set_cons_succ])
          refine regN_takeC [17, 16, 7] (i := 6) (d := (some 41)) (v := ?v8x7) (l2 := #[true, true, true, true, true, true, true, false, false, false, false, false, false, false, false, false, false, false, false, false, false, false, false, false, false, false, false, false, false, false, false, false, false]) rfl rfl rfl (by kernel_rfl) (by kernel_rfl) (by kernel_rfl) (by kernel_rfl) (fun _ _ _ h => h) (by rfl) ?hv8x7 hS0 ?h8x7
          case hv8x7 => intro u hSu; clear hSu; go_simp; (try with_reducible rfl)
          (try simp only [Act.put, List.setIfInBounds_toArray, List.set_cons_zero, List.set_cons_succ])
          refine regN_takeC [17, 16] (i := 7) (d := (some 42)) (v := ?v8x8) (l2 := #[true, true, true, true, true, true, true, true, false, false, false, false, false, false, false, false, false, false, false, false, false, false, false, false, false, false, false, false, false, false, false, false, false]) rfl rfl rfl (by kernel_rfl) (by kernel_rfl) (by kernel_rfl) (by kernel_rfl) (fun _ _ _ h => h) (by rfl) ?hv8x8 hS0 ?h8x8
          case hv8x8 => intro u hSu; clear hSu; go_simp; (try with_reducible rfl)
          (try simp only [Act.put, List.setIfInBounds_toArray, List.set_cons_zero, List.set_cons_succ])
          refine regN_takeC [17, 14] (i := 8) (d := (some 43)) (v := ?v8x9) (l2 := #[true, true, true, true, true, true, true, true, true, false, false, false, false, false, false, false, false, false, false, false, false, false, false, false, false, false, false, false, false, false, false, false, false]) rfl rfl rfl (by kernel_rfl) (by kernel_rfl) (by kernel_rfl) (by kernel_rfl) (fun _ _ _ h => h) (by rfl) ?hv8x9 hS0 ?h8x9
          case hv8x9 => intro u hSu; clear hSu; go_simp; (try with_reducible rfl)
          (try simp only [Act.put, List.setIfInBounds_toArray, List.set_cons_zero, List.set_cons_succ])
          refine regN_takeC [17, 14] (i := 9) (d := (some 44)) (v := ?v8x10) (l2 := #[true, true, true, true, true, true, true, true, true, true, false, false, false, false, false, false, false, false, false, false, false, false, false, false, false, false, false, false, false, false, false, false, false]) rfl rfl rfl (by kernel_rfl) (by kernel_rfl) (by kernel_rfl) (by kernel_rfl) (fun _ _ _ h => h) (by rfl) ?hv8x10 hS0 ?h8x10
          case hv8x10 => intro u hSu; clear hSu; go_simp; (try with_reducible rfl)
          (try simp only [Act.put, List.setIfInBounds_toArray, List.set_cons_zero, List.set_cons_succ])
          refine regN_takeC [17, 14, 13, 12] (i := 10) (d := (some 45)) (v := ?v8x11) (l2 := #[true, true, true, true, true, true, true, true, true, true, true, false, false, false, false, false, false, false, false, false, false, false, false, false, false, false, false, false, false, false, false, false, false]) rfl rfl rfl (by kernel_rfl) (by kernel_rfl) (by kernel_rfl) (by kernel_rfl) (fun _ _ _ h => h) (by rfl) ?hv8x11 hS0 ?h8x11
          case hv8x11 => intro u hSu; clear hSu; go_simp; (try with_reducible rfl)
          (try simp only [Act.put, List.setIfInBounds_toArray, List.set_cons_zero, List.set_cons_succ])
          refine regN_takeC [17, 14, 13, 12] (i := 11) (d := (some 46)) (v := ?v8x12) (l2 := #[true, true, true, true, true, true, true, true, true, true, true, true, false, false, false, false, false, false, false, false, false, false, false, false, false, false, false, false, false, false, false, false, false]) rfl rfl rfl (by kernel_rfl) (by kernel_rfl) (by kernel_rfl) (by kernel_rfl) (fun _ _ _ h => h) (by rfl) ?hv8x12 hS0 ?h8x12
          case hv8x12 => intro u hSu; clear hSu; go_simp; (try with_reducible rfl)
          (try simp only [Act.put, List.setIfInBounds_toArray, List.set_cons_zero, List.set_cons_succ])
          refine regN_takeC [17, 14, 13] (i := 12) (d := (some 47)) (v := ?v8x13) (l2 := #[true, true, true, true, true, true, true, true, true, true, true, true, true, false, false, false, false, false, false, false, false, false, false, false, false, false, false, false, false, false, false, false, false]) rfl rfl rfl (by kernel_rfl) (by kernel_rfl) (by kernel_rfl) (by kernel_rfl) (fun _ _ _ h => h) (by rfl) ?hv8x13 hS0 ?h8x13
          case hv8x13 => intro u hSu; clear hSu; go_simp; (try with_reducible rfl)
          (try simp only [Act.put, List.setIfInBounds_toArray, List.set_cons_zero, List.set_cons_succ])
          refine regN_takeC [17, 14] (i := 13) (d := (some 48)) (v := ?v8x14) (l2 := #[true, true, true, true, true, true, true, true, true, true, true, true, true, true, false, false, false, false, false, false, false, false, false, false, false, false, false, false, false, false, false, false, false]) rfl rfl rfl (by kernel_rfl) (by kernel_rfl) (by kernel_rfl) (by kernel_rfl) (fun _ _ _ h => h) (by rfl) ?hv8x14 hS0 ?h8x14
          case hv8x14 => intro u hSu; (try dsimp only at hSu); (try go_split_ands); go_simp; (try with_reducible rfl)
          (try simp only [Act.put, List.setIfInBounds_toArray, List.set_cons_zero, List.set_cons_succ])
          refine regN_ready (rs := [14]) (by kernel_rfl) (by simp) ?_
          refine (AllN.cons (i := 14) (l2 := #[true, true, true, true, true, true, true, true, true, true, true, true, true, true, true, false, false, false, false, false, false, false, false, false, false, false, false, false, false, false, false, false, false]) rfl rfl (fun K hK => ?_) AllN.nil)
          go_simp
          go_at_call 23
          (with_reducible refine (KI.out _ HB9.out.drew).mono ?_)
          rintro e w10 ⟨rfl, hb10⟩
          rw [HIS.out]
          have HBN := Lib.hid (below_on (show Below w.heap.size w _ from HB9.out.drew) hb10)
          have HON := Lib.hid (own_bel (show World.ownsRow W9.drew w1.heap.size 9 1 (.slice (some ⟨g, 0, none⟩) p pc) p (strs P) from HO9.out) hb10)
          have q1 := (hb10.cell (p := ⟨g, 0, none⟩) (by exact hg9)).trans (show W9.drew.cell? _ = _ from k9)
          have q3 := (hb10.cell (p := ⟨B13, 3, none⟩) (by exact hlb)).trans (show W9.drew.cell? _ = _ from x3)
          clear hb10
          go_simp
          have hS1 : ((fun W' => W'.cell? ⟨g, 0, none⟩ = some (.string s) ∧ W'.cell? ⟨B13, 3, none⟩ = some (.bool true) ∧ Below w.heap.size w W' ∧ W'.ownsRow w1.heap.size 9 1 (.slice (some ⟨g, 0, none⟩) p pc) p (strs P)) : World → Prop) _ := (show (fun W' => W'.cell? ⟨g, 0, none⟩ = some (.string s) ∧ W'.cell? ⟨B13, 3, none⟩ = some (.bool true) ∧ Below w.heap.size w W' ∧ W'.ownsRow w1.heap.size 9 1 (.slice (some ⟨g, 0, none⟩) p pc) p (strs P)) _ from ⟨q1, q3, HBN.out, HON.out⟩)
          refine hK _ _ (fun _ => hS1) ?_
          clear hK K
          (try simp only [Act.put, List.setIfInBounds_toArray, List.set_cons_zero, List.set_cons_succ])
          refine regN_takeC [17, 16] (i := 15) (d := (some 50)) (v := ?v8x15) (l2 := #[true, true, true, true, true, true, true, true, true, true, true, true, true, true, true, true, false, false, false, false, false, false, false, false, false, false, false, false, false, false, false, false, false]) rfl rfl rfl (by kernel_rfl) (by kernel_rfl) (by kernel_rfl) (by kernel_rfl) (fun _ _ _ h => h) (by rfl) ?hv8x15 hS1 ?h8x15
          case hv8x15 => intro u hSu; clear hSu; go_simp; (try with_reducible rfl)
          (try simp only [Act.put, List.setIfInBounds_toArray, List.set_cons_zero, List.set_cons_succ])
          refine regN_takeC [17] (i := 16) (d := (some 51)) (v := ?v8x16) (l2 := #[true, true, true, true, true, true, true, true, true, true, true, true, true, true, true, true, true, false, false, false, false, false, false, false, false, false, false, false, false, false, false, false, false]) rfl rfl rfl (by kernel_rfl) (by kernel_rfl) (by kernel_rfl) (by kernel_rfl) (fun _ _ _ h => h) (by rfl) ?hv8x16 hS1 ?h8x16
          case hv8x16 => intro u hSu; clear hSu; go_simp; (try with_reducible rfl)
          (try simp only [Act.put, List.setIfInBounds_toArray, List.set_cons_zero, List.set_cons_succ])
          refine regN_take (i := 17) (d := (some 52)) (v := ?v8x17) (l2 := #[true, true, true, true, true, true, true, true, true, true, true, true, true, true, true, true, true, true, false, false, false, false, false, false, false, false, false, false, false, false, false, false, false]) rfl rfl rfl (by kernel_rfl) (by kernel_rfl) (by kernel_rfl) (by kernel_rfl) (fun _ _ _ h => h) (by rfl) ?hv8x17 hS1 ?h8x17
          case hv8x17 => intro u hSu; clear hSu; go_simp; (try with_reducible rfl)
          (try simp only [Act.put, List.setIfInBounds_toArray, List.set_cons_zero, List.set_cons_succ])
          refine regN_takeC [31, 20, 19] (i := 18) (d := (some 53)) (v := ?v8x18) (l2 := #[true, true, true, true, true, true, true, true, true, true, true, true, true, true, true, true, true, true, true, false, false, false, false, false, false, false, false, false, false, false, false, false, false]) rfl rfl rfl (by kernel_rfl) (by kernel_rfl) (by kernel_rfl) (by kernel_rfl) (fun _ _ _ h => h) (by rfl) ?hv8x18 hS1 ?h8x18
          case hv8x18 => intro u hSu; clear hSu; go_simp; (try with_reducible rfl)
          (try simp only [Act.put, List.setIfInBounds_toArray, List.set_cons_zero, List.set_cons_succ])
          refine regN_ready (rs := [19]) (by kernel_rfl) (by simp) ?_
          refine (AllN.cons (i := 19) (l2 := #[true, true, true, true, true, true, true, true, true, true, true, true, true, true, true, true, true, true, true, true, false, false, false, false, false, false, false, false, false, false, false, false, false]) rfl rfl (fun K hK => ?_) AllN.nil)
          go_simp
          have hS2 : ((fun W' => W'.cell? ⟨g, 0, none⟩ = some (.string s) ∧ W'.cell? ⟨B13, 3, none⟩ = some (.bool true) ∧ Below w.heap.size w W' ∧ W'.ownsRow w1.heap.size 9 1 (.slice (some ⟨g, 0, none⟩) p pc) p (strs P)) : World → Prop) _ := (show (fun W' => W'.cell? ⟨g, 0, none⟩ = some (.string s) ∧ W'.cell? ⟨B13, 3, none⟩ = some (.bool true) ∧ Below w.heap.size w W' ∧ W'.ownsRow w1.heap.size 9 1 (.slice (some ⟨g, 0, none⟩) p pc) p (strs P)) _ from ⟨q1, q3, HBN.out, HON.out⟩)
          refine hK _ _ (fun _ => hS2) ?_
          clear hK K
          (try simp only [Act.put, List.setIfInBounds_toArray, List.set_cons_zero, List.set_cons_succ])
          refine regN_takeC [31] (i := 20) (d := (some 55)) (v := ?v8x19) (l2 := #[true, true, true, true, true, true, true, true, true, true, true, true, true, true, true, true, true, true, true, true, true, false, false, false, false, false, false, false, false, false, false, false, false]) rfl rfl rfl (by kernel_rfl) (by kernel_rfl) (by kernel_rfl) (by kernel_rfl) (fun _ _ _ h => h) (by rfl) ?hv8x19 hS2 ?h8x19
          case hv8x19 => intro u hSu; clear hSu; go_simp; (try with_reducible rfl)
          (try simp only [Act.put, List.setIfInBounds_toArray, List.set_cons_zero, List.set_cons_succ])
          refine regN_skipC [31, 30, 25, 24] (i := 21) (d := (some 56)) (l2 := #[true, true, true, true, true, true, true, true, true, true, true, true, true, true, true, true, true, true, true, true, true, true, false, false, false, false, false, false, false, false, false, false, false]) rfl rfl rfl (by kernel_rfl) (by kernel_rfl) (by kernel_rfl) (by kernel_rfl) (fun _ _ _ h => h) (by rfl) hS2 ?_
          (try simp only [Act.put, List.setIfInBounds_toArray, List.set_cons_zero, List.set_cons_succ])
          refine regN_skipC [31, 30, 25, 24, 23] (i := 22) (d := (some 57)) (l2 := #[true, true, true, true, true, true, true, true, true, true, true, true, true, true, true, true, true, true, true, true, true, true, true, false, false, false, false, false, false, false, false, false, false]) rfl rfl rfl (by kernel_rfl) (by kernel_rfl) (by kernel_rfl) (by kernel_rfl) (fun _ _ _ h => h) (by rfl) hS2 ?_
          (try simp only [Act.put, List.setIfInBounds_toArray, List.set_cons_zero, List.set_cons_succ])
          refine regN_skipC [31, 30, 25, 24] (i := 23) (d := (some 58)) (l2 := #[true, true, true, true, true, true, true, true, true, true, true, true, true, true, true, true, true, true, true, true, true, true, true, true, false, false, false, false, false, false, false, false, false]) rfl rfl rfl (by kernel_rfl) (by kernel_rfl) (by kernel_rfl) (by kernel_rfl) (fun _ _ _ h => h) (by rfl) hS2 ?_
          (try simp only [Act.put, List.setIfInBounds_toArray, List.set_cons_zero, List.set_cons_succ])
          refine regN_skipC [31, 30, 25] (i := 24) (d := (some 59)) (l2 := #[true, true, true, true, true, true, true, true, true, true, true, true, true, true, true, true, true, true, true, true, true, true, true, true, true, false, false, false, false, false, false, false, false]) rfl rfl rfl (by kernel_rfl) (by kernel_rfl) (by kernel_rfl) (by kernel_rfl) (fun _ _ _ h => h) (by rfl) hS2 ?_
          (try simp only [Act.put, List.setIfInBounds_toArray, List.set_cons_zero, List.set_cons_succ])
          refine regN_skipC [31, 30] (i := 25) (d := (some 60)) (l2 := #[true, true, true, true, true, true, true, true, true, true, true, true, true, true, true, true, true, true, true, true, true, true, true, true, true, true, false, false, false, false, false, false, false]) rfl rfl rfl (by kernel_rfl) (by kernel_rfl) (by kernel_rfl) (by kernel_rfl) (fun _ _ _ h => h) (by rfl) hS2 ?_
          (try simp only [Act.put, List.setIfInBounds_toArray, List.set_cons_zero, List.set_cons_succ])
          refine regN_skipC [31, 30, 29, 28] (i := 26) (d := (some 61)) (l2 := #[true, true, true, true, true, true, true, true, true, true, true, true, true, true, true, true, true, true, true, true, true, true, true, true, true, true, true, false, false, false, false, false, false]) rfl rfl rfl (by kernel_rfl) (by kernel_rfl) (by kernel_rfl) (by kernel_rfl) (fun _ _ _ h => h) (by rfl) hS2 ?_
          (try simp only [Act.put, List.setIfInBounds_toArray, List.set_cons_zero, List.set_cons_succ])
          refine regN_skipC [31, 30, 29, 28] (i := 27) (d := (some 62)) (l2 := #[true, true, true, true, true, true, true, true, true, true, true, true, true, true, true, true, true, true, true, true, true, true, true, true, true, true, true, true, false, false, false, false, false]) rfl rfl rfl (by kernel_rfl) (by kernel_rfl) (by kernel_rfl) (by kernel_rfl) (fun _ _ _ h => h) (by rfl) hS2 ?_
          (try simp only [Act.put, List.setIfInBounds_toArray, List.set_cons_zero, List.set_cons_succ])
          refine regN_skipC [31, 30, 29] (i := 28) (d := (some 63)) (l2 := #[true, true, true, true, true, true, true, true, true, true, true, true, true, true, true, true, true, true, true, true, true, true, true, true, true, true, true, true, true, false, false, false, false]) rfl rfl rfl (by kernel_rfl) (by kernel_rfl) (by kernel_rfl) (by kernel_rfl) (fun _ _ _ h => h) (by rfl) hS2 ?_
          (try simp only [Act.put, List.setIfInBounds_toArray, List.set_cons_zero, List.set_cons_succ])
          refine regN_skipC [31, 30] (i := 29) (d := (some 64)) (l2 := #[true, true, true, true, true, true, true, true, true, true, true, true, true, true, true, true, true, true, true, true, true, true, true, true, true, true, true, true, true, true, false, false, false]) rfl rfl rfl (by kernel_rfl) (by kernel_rfl) (by kernel_rfl) (by kernel_rfl) (fun _ _ _ h => h) (by rfl) hS2 ?_
          (try simp only [Act.put, List.setIfInBounds_toArray, List.set_cons_zero, List.set_cons_succ])
          refine regN_skipC [31] (i := 30) (d := (some 65)) (l2 := #[true, true, true, true, true, true, true, true, true, true, true, true, true, true, true, true, true, true, true, true, true, true, true, true, true, true, true, true, true, true, true, false, false]) rfl rfl rfl (by kernel_rfl) (by kernel_rfl) (by kernel_rfl) (by kernel_rfl) (fun _ _ _ h => h) (by rfl) hS2 ?_
          (try simp only [Act.put, List.setIfInBounds_toArray, List.set_cons_zero, List.set_cons_succ])
          refine regN_take (i := 31) (d := (some 66)) (v := ?v8x20) (l2 := #[true, true, true, true, true, true, true, true, true, true, true, true, true, true, true, true, true, true, true, true, true, true, true, true, true, true, true, true, true, true, true, true, false]) rfl rfl rfl (by kernel_rfl) (by kernel_rfl) (by kernel_rfl) (by kernel_rfl) (fun _ _ _ h => h) (by rfl) ?hv8x20 hS2 ?h8x20
          case hv8x20 => intro u hSu; clear hSu; go_simp; (try with_reducible rfl)
          (try simp only [Act.put, List.setIfInBounds_toArray, List.set_cons_zero, List.set_cons_succ])
          refine regN_ready (rs := [32]) (by kernel_rfl) (by simp) ?_
          refine (AllN.cons (i := 32) (l2 := #[true, true, true, true, true, true, true, true, true, true, true, true, true, true, true, true, true, true, true, true, true, true, true, true, true, true, true, true, true, true, true, true, true]) rfl rfl (fun K hK => ?_) AllN.nil)
          go_simp
          refine hK _ _ (fun h => absurd rfl h) ?_
          clear hK K
          (try simp only [Act.put, List.setIfInBounds_toArray, List.set_cons_zero, List.set_cons_succ])
          refine regN_done (by kernel_rfl) ?_ _
          go_wp2
          go_roundw
          case rel => exact ⟨0 + 1, by go_num, by omega, HBN, HON⟩
          case measure => simp [intOf] <;> omega
        | succ i =>
          have hiP : i < P.length := by omega
          have k9b : W9.cell? ⟨g, i, none⟩ = some (.string P[i]) := HROW.out W9 HO9.out i hiP
          have hlx := HPT.out i hjP
          rw [HSJ.out] at hlx
          obtain ⟨t, ht⟩ : ∃ t, P[i] = t := ⟨_, rfl⟩
          rw [ht] at hlx k9b
          clear ht
          have hip : i < p := by omega
          have e1 : IntKind.i64.wrap ((i : Int) + 1 - 1) = (i : Int) := by rw [Int.add_sub_cancel]; exact IntWalk.i64_in _ (by omega)
          have e1b : IntKind.i64.wrap (i : Int) = (i : Int) := IntWalk.i64_in _ (by omega)
          have e2 : decide ((0 : Int) < (i : Int) + 1) = true := decide_eq_true (by omega)
          have e3 : ((i : Int) + 1).toNat = i + 1 := by omega
          have e4 : (0 : Int) ≤ (i : Int) + 1 := by omega
          have e5 : (i : Int) + 1 < (p : Int) := by omega
          refine regN_start (N := 32) (S := (fun W' => W'.cell? ⟨g, i + 1, none⟩ = some (.string s) ∧ W'.cell? ⟨g, i, none⟩ = some (.string t) ∧ W'.cell? ⟨B13, 3, none⟩ = some (.bool true) ∧ Below w.heap.size w W' ∧ W'.ownsRow w1.heap.size 9 1 (.slice (some ⟨g, 0, none⟩) p pc) p (strs P))) (by kernel_rfl) ?_
          change wpAnyN _ _ _ _ _ _ _ #[false, false, false, false, false, false, false, false, false, false, false, false, false, false, false, false, false, false, false, false, false, false, false, false, false, false, false, false, false, false, false, false, false] _ (World.drew _)
          have hS0 := (show (fun W' => W'.cell? ⟨g, i + 1, none⟩ = some (.string s) ∧ W'.cell? ⟨g, i, none⟩ = some (.string t) ∧ W'.cell? ⟨B13, 3, none⟩ = some (.bool true) ∧ Below w.heap.size w W' ∧ W'.ownsRow w1.heap.size 9 1 (.slice (some ⟨g, 0, none⟩) p pc) p (strs P)) W9.drew from ⟨k9, k9b, x3, HB9.out.drew, HO9.out⟩)
          refine regN_takeC [17, 16, 7, 2, 1] (i := 0) (d := (some 35)) (v := ?v8y1) (l2 := #[true, false, false, false, false, false, false, false, false, false, false, false, false, false, false, false, false, false, false, false, false, false, false, false, false, false, false, false, false, false, false, false, false]) rfl rfl rfl (by kernel_rfl) (by kernel_rfl) (by kernel_rfl) (by kernel_rfl) (fun _ _ _ h => h) (by rfl) ?hv8y1 hS0 ?h8y1
          case hv8y1 => intro u hSu; clear hSu; go_simp; (try with_reducible rfl)
          (try simp only [Act.put, List.setIfInBounds_toArray, List.set_cons_zero, List.set_cons_succ])
          refine regN_takeC [17, 16, 7, 2] (i := 1) (d := (some 36)) (v := ?v8y2) (l2 := #[true, true, false, false, false, false, false, false, false, false, false, false, false, false, false, false, false, false, false, false, false, false, false, false, false, false, false, false, false, false, false, false, false]) rfl rfl rfl (by kernel_rfl) (by kernel_rfl) (by kernel_rfl) (by kernel_rfl) (fun _ _ _ h => h) (by rfl) ?hv8y2 hS0 ?h8y2
          case hv8y2 => intro u hSu; clear hSu; go_simp; (try with_reducible rfl)
          (try simp only [Act.put, List.setIfInBounds_toArray, List.set_cons_zero, List.set_cons_succ])
          refine regN_takeC [17, 16, 7] (i := 2) (d := (some 37)) (v := ?v8y3) (l2 := #[true, true, true, false, false, false, false, false, false, false, false, false, false, false, false, false, false, false, false, false, false, false, false, false, false, false, false, false, false, false, false, false, false]) rfl rfl rfl (by kernel_rfl) (by kernel_rfl) (by kernel_rfl) (by kernel_rfl) (fun _ _ _ h => h) (by rfl) ?hv8y3 hS0 ?h8y3
          case hv8y3 => intro u hSu; clear hSu; go_simp; (try with_reducible rfl)
          (try simp only [Act.put, List.setIfInBounds_toArray, List.set_cons_zero, List.set_cons_succ])
          refine regN_takeC [17, 16, 7, 6, 5, 4] (i := 3) (d := (some 38)) (v := ?v8y4) (l2 := #[true, true, true, true, false, false, false, false, false, false, false, false, false, false, false, false, false, false, false, false, false, false, false, false, false, false, false, false, false, false, false, false, false]) rfl rfl rfl (by kernel_rfl) (by kernel_rfl) (by kernel_rfl) (by kernel_rfl) (fun _ _ _ h => h) (by rfl) ?hv8y4 hS0 ?h8y4
          case hv8y4 => intro u hSu; clear hSu; go_simp; (try with_reducible rfl)
          (try simp only [Act.put, List.setIfInBounds_toArray, List.set_cons_zero, List.set_cons_succ])
          refine regN_takeC [17, 16, 7, 6, 5] (i := 4) (d := (some 39)) (v := ?v8y5) (l2 := #[true, true, true, true, true, false, false, false, false, false, false, false, false, false, false, false, false, false, false, false, false, false, false, false, false, false, false, false, false, false, false, false, false]) rfl rfl rfl (by kernel_rfl) (by kernel_rfl) (by kernel_rfl) (by kernel_rfl) (fun _ _ _ h => h) (by rfl) ?hv8y5 hS0 ?h8y5
          case hv8y5 => intro u hSu; (try dsimp only at hSu); (try go_split_ands); go_simp; (try with_reducible rfl)
          (try simp only [Act.put, List.setIfInBounds_toArray, List.set_cons_zero, List.set_cons_succ])
          refine regN_takeC [17, 16, 7, 6] (i := 5) (d := (some 40)) (v := ?v8y6) (l2 := #[true, true, true, true, true, true, false, false, false, false, false, false, false, false, false, false, false, false, false, false, false, false, false, false, false, false, false, false, false, false, false, false, false]) rfl rfl rfl (by kernel_rfl) (by kernel_rfl) (by kernel_rfl) (by kernel_rfl) (fun _ _ _ h => h) (by rfl) ?hv8y6 hS0 ?h8y6
          case hv8y6 => intro u hSu; clear hSu; go_simp; (try with_reducible rfl)
          (try simp only [Act.put, List.setIfInBounds_toArray, List.set_cons_zero, List.set_cons_succ])
          refine regN_takeC [17, 16, 7] (i := 6) (d := (some 41)) (v := ?v8y7) (l2 := #[true, true, true, true, true, true, true, false, false, false, false, false, false, false, false, false, false, false, false, false, false, false, false, false, false, false, false, false, false, false, false, false, false]) rfl rfl rfl (by kernel_rfl) (by kernel_rfl) (by kernel_rfl) (by kernel_rfl) (fun _ _ _ h => h) (by rfl) ?hv8y7 hS0 ?h8y7
          case hv8y7 => intro u hSu; clear hSu; go_simp; (try with_reducible rfl)
          (try simp only [Act.put, List.setIfInBounds_toArray, List.set_cons_zero, List.set_cons_succ])
          refine regN_takeC [17, 16] (i := 7) (d := (some 42)) (v := ?v8y8) (l2 := #[true, true, true, true, true, true, true, true, false, false, false, false, false, false, false, false, false, false, false, false, false, false, false, false, false, false, false, false, false, false, false, false, false]) rfl rfl rfl (by kernel_rfl) (by kernel_rfl) (by kernel_rfl) (by kernel_rfl) (fun _ _ _ h => h) (by rfl) ?hv8y8 hS0 ?h8y8
          case hv8y8 => intro u hSu; clear hSu; go_simp; (try with_reducible rfl)
          (try simp only [Act.put, List.setIfInBounds_toArray, List.set_cons_zero, List.set_cons_succ])
          refine regN_takeC [17, 14] (i := 8) (d := (some 43)) (v := ?v8y9) (l2 := #[true, true, true, true, true, true, true, true, true, false, false, false, false, false, false, false, false, false, false, false, false, false, false, false, false, false, false, false, false, false, false, false, false]) rfl rfl rfl (by kernel_rfl) (by kernel_rfl) (by kernel_rfl) (by kernel_rfl) (fun _ _ _ h => h) (by rfl) ?hv8y9 hS0 ?h8y9
          case hv8y9 => intro u hSu; clear hSu; go_simp; (try with_reducible rfl)
          (try simp only [Act.put, List.setIfInBounds_toArray, List.set_cons_zero, List.set_cons_succ])
          refine regN_takeC [17, 14] (i := 9) (d := (some 44)) (v := ?v8y10) (l2 := #[true, true, true, true, true, true, true, true, true, true, false, false, false, false, false, false, false, false, false, false, false, false, false, false, false, false, false, false, false, false, false, false, false]) rfl rfl rfl (by kernel_rfl) (by kernel_rfl) (by kernel_rfl) (by kernel_rfl) (fun _ _ _ h => h) (by rfl) ?hv8y10 hS0 ?h8y10
          case hv8y10 => intro u hSu; clear hSu; go_simp; (try with_reducible rfl)
          (try simp only [Act.put, List.setIfInBounds_toArray, List.set_cons_zero, List.set_cons_succ])
          refine regN_takeC [17, 14, 13, 12] (i := 10) (d := (some 45)) (v := ?v8y11) (l2 := #[true, true, true, true, true, true, true, true, true, true, true, false, false, false, false, false, false, false, false, false, false, false, false, false, false, false, false, false, false, false, false, false, false]) rfl rfl rfl (by kernel_rfl) (by kernel_rfl) (by kernel_rfl) (by kernel_rfl) (fun _ _ _ h => h) (by rfl) ?hv8y11 hS0 ?h8y11
          case hv8y11 => intro u hSu; clear hSu; go_simp; (try with_reducible rfl)
          (try simp only [Act.put, List.setIfInBounds_toArray, List.set_cons_zero, List.set_cons_succ])
          refine regN_takeC [17, 14, 13, 12] (i := 11) (d := (some 46)) (v := ?v8y12) (l2 := #[true, true, true, true, true, true, true, true, true, true, true, true, false, false, false, false, false, false, false, false, false, false, false, false, false, false, false, false, false, false, false, false, false]) rfl rfl rfl (by kernel_rfl) (by kernel_rfl) (by kernel_rfl) (by kernel_rfl) (fun _ _ _ h => h) (by rfl) ?hv8y12 hS0 ?h8y12
          case hv8y12 => intro u hSu; clear hSu; go_simp; (try with_reducible rfl)
          (try simp only [Act.put, List.setIfInBounds_toArray, List.set_cons_zero, List.set_cons_succ])
          refine regN_takeC [17, 14, 13] (i := 12) (d := (some 47)) (v := ?v8y13) (l2 := #[true, true, true, true, true, true, true, true, true, true, true, true, true, false, false, false, false, false, false, false, false, false, false, false, false, false, false, false, false, false, false, false, false]) rfl rfl rfl (by kernel_rfl) (by kernel_rfl) (by kernel_rfl) (by kernel_rfl) (fun _ _ _ h => h) (by rfl) ?hv8y13 hS0 ?h8y13
          case hv8y13 => intro u hSu; clear hSu; go_simp; (try with_reducible rfl)
          (try simp only [Act.put, List.setIfInBounds_toArray, List.set_cons_zero, List.set_cons_succ])
          refine regN_takeC [17, 14] (i := 13) (d := (some 48)) (v := ?v8y14) (l2 := #[true, true, true, true, true, true, true, true, true, true, true, true, true, true, false, false, false, false, false, false, false, false, false, false, false, false, false, false, false, false, false, false, false]) rfl rfl rfl (by kernel_rfl) (by kernel_rfl) (by kernel_rfl) (by kernel_rfl) (fun _ _ _ h => h) (by rfl) ?hv8y14 hS0 ?h8y14
          case hv8y14 => intro u hSu; (try dsimp only at hSu); (try go_split_ands); go_simp; (try with_reducible rfl)
          (try simp only [Act.put, List.setIfInBounds_toArray, List.set_cons_zero, List.set_cons_succ])
          refine regN_ready (rs := [14]) (by kernel_rfl) (by simp) ?_
          refine (AllN.cons (i := 14) (l2 := #[true, true, true, true, true, true, true, true, true, true, true, true, true, true, true, false, false, false, false, false, false, false, false, false, false, false, false, false, false, false, false, false, false]) rfl rfl (fun K hK => ?_) AllN.nil)
          go_simp
          go_at_call 23
          (with_reducible refine (KI.out _ HB9.out.drew).mono ?_)
          rintro e w10 ⟨rfl, hb10⟩
          rw [HIS.out]
          have HBN := Lib.hid (below_on (show Below w.heap.size w _ from HB9.out.drew) hb10)
          have HON := Lib.hid (own_bel (show World.ownsRow W9.drew w1.heap.size 9 1 (.slice (some ⟨g, 0, none⟩) p pc) p (strs P) from HO9.out) hb10)
          have q1 := (hb10.cell (p := ⟨g, i + 1, none⟩) (by exact hg9)).trans (show W9.drew.cell? _ = _ from k9)
          have q2 := (hb10.cell (p := ⟨g, i, none⟩) (by exact hg9)).trans (show W9.drew.cell? _ = _ from k9b)
          have q3 := (hb10.cell (p := ⟨B13, 3, none⟩) (by exact hlb)).trans (show W9.drew.cell? _ = _ from x3)
          clear hb10
          go_simp
          have hS1 : ((fun W' => W'.cell? ⟨g, i + 1, none⟩ = some (.string s) ∧ W'.cell? ⟨g, i, none⟩ = some (.string t) ∧ W'.cell? ⟨B13, 3, none⟩ = some (.bool true) ∧ Below w.heap.size w W' ∧ W'.ownsRow w1.heap.size 9 1 (.slice (some ⟨g, 0, none⟩) p pc) p (strs P)) : World → Prop) _ := (show (fun W' => W'.cell? ⟨g, i + 1, none⟩ = some (.string s) ∧ W'.cell? ⟨g, i, none⟩ = some (.string t) ∧ W'.cell? ⟨B13, 3, none⟩ = some (.bool true) ∧ Below w.heap.size w W' ∧ W'.ownsRow w1.heap.size 9 1 (.slice (some ⟨g, 0, none⟩) p pc) p (strs P)) _ from ⟨q1, q2, q3, HBN.out, HON.out⟩)
          refine hK _ _ (fun _ => hS1) ?_
          clear hK K
          (try simp only [Act.put, List.setIfInBounds_toArray, List.set_cons_zero, List.set_cons_succ])
          refine regN_takeC [17, 16] (i := 15) (d := (some 50)) (v := ?v8y15) (l2 := #[true, true, true, true, true, true, true, true, true, true, true, true, true, true, true, true, false, false, false, false, false, false, false, false, false, false, false, false, false, false, false, false, false]) rfl rfl rfl (by kernel_rfl) (by kernel_rfl) (by kernel_rfl) (by kernel_rfl) (fun _ _ _ h => h) (by rfl) ?hv8y15 hS1 ?h8y15
          case hv8y15 => intro u hSu; clear hSu; go_simp; (try with_reducible rfl)
          (try simp only [Act.put, List.setIfInBounds_toArray, List.set_cons_zero, List.set_cons_succ])
          refine regN_takeC [17] (i := 16) (d := (some 51)) (v := ?v8y16) (l2 := #[true, true, true, true, true, true, true, true, true, true, true, true, true, true, true, true, true, false, false, false, false, false, false, false, false, false, false, false, false, false, false, false, false]) rfl rfl rfl (by kernel_rfl) (by kernel_rfl) (by kernel_rfl) (by kernel_rfl) (fun _ _ _ h => h) (by rfl) ?hv8y16 hS1 ?h8y16
          case hv8y16 => intro u hSu; clear hSu; go_simp; (try with_reducible rfl)
          (try simp only [Act.put, List.setIfInBounds_toArray, List.set_cons_zero, List.set_cons_succ])
          refine regN_take (i := 17) (d := (some 52)) (v := ?v8y17) (l2 := #[true, true, true, true, true, true, true, true, true, true, true, true, true, true, true, true, true, true, false, false, false, false, false, false, false, false, false, false, false, false, false, false, false]) rfl rfl rfl (by kernel_rfl) (by kernel_rfl) (by kernel_rfl) (by kernel_rfl) (fun _ _ _ h => h) (by rfl) ?hv8y17 hS1 ?h8y17
          case hv8y17 => intro u hSu; clear hSu; go_simp; (try with_reducible rfl)
          (try simp only [Act.put, List.setIfInBounds_toArray, List.set_cons_zero, List.set_cons_succ])
          refine regN_takeC [31, 20, 19] (i := 18) (d := (some 53)) (v := ?v8y18) (l2 := #[true, true, true, true, true, true, true, true, true, true, true, true, true, true, true, true, true, true, true, false, false, false, false, false, false, false, false, false, false, false, false, false, false]) rfl rfl rfl (by kernel_rfl) (by kernel_rfl) (by kernel_rfl) (by kernel_rfl) (fun _ _ _ h => h) (by rfl) ?hv8y18 hS1 ?h8y18
          case hv8y18 => intro u hSu; clear hSu; go_simp; (try with_reducible rfl)
          (try simp only [Act.put, List.setIfInBounds_toArray, List.set_cons_zero, List.set_cons_succ])
          refine regN_ready (rs := [19]) (by kernel_rfl) (by simp) ?_
          refine (AllN.cons (i := 19) (l2 := #[true, true, true, true, true, true, true, true, true, true, true, true, true, true, true, true, true, true, true, true, false, false, false, false, false, false, false, false, false, false, false, false, false]) rfl rfl (fun K hK => ?_) AllN.nil)
          go_simp
          have hS2 : ((fun W' => W'.cell? ⟨g, i + 1, none⟩ = some (.string s) ∧ W'.cell? ⟨g, i, none⟩ = some (.string t) ∧ W'.cell? ⟨B13, 3, none⟩ = some (.bool true) ∧ Below w.heap.size w W' ∧ W'.ownsRow w1.heap.size 9 1 (.slice (some ⟨g, 0, none⟩) p pc) p (strs P)) : World → Prop) _ := (show (fun W' => W'.cell? ⟨g, i + 1, none⟩ = some (.string s) ∧ W'.cell? ⟨g, i, none⟩ = some (.string t) ∧ W'.cell? ⟨B13, 3, none⟩ = some (.bool true) ∧ Below w.heap.size w W' ∧ W'.ownsRow w1.heap.size 9 1 (.slice (some ⟨g, 0, none⟩) p pc) p (strs P)) _ from ⟨q1, q2, q3, HBN.out, HON.out⟩)
          refine hK _ _ (fun _ => hS2) ?_
          clear hK K
          (try simp only [Act.put, List.setIfInBounds_toArray, List.set_cons_zero, List.set_cons_succ])
          refine regN_takeC [31] (i := 20) (d := (some 55)) (v := ?v8y19) (l2 := #[true, true, true, true, true, true, true, true, true, true, true, true, true, true, true, true, true, true, true, true, true, false, false, false, false, false, false, false, false, false, false, false, false]) rfl rfl rfl (by kernel_rfl) (by kernel_rfl) (by kernel_rfl) (by kernel_rfl) (fun _ _ _ h => h) (by rfl) ?hv8y19 hS2 ?h8y19
          case hv8y19 => intro u hSu; clear hSu; go_simp; (try with_reducible rfl)
          (try simp only [Act.put, List.setIfInBounds_toArray, List.set_cons_zero, List.set_cons_succ])
          refine regN_takeC [31, 30, 25, 24] (i := 21) (d := (some 56)) (v := ?v8y20) (l2 := #[true, true, true, true, true, true, true, true, true, true, true, true, true, true, true, true, true, true, true, true, true, true, false, false, false, false, false, false, false, false, false, false, false]) rfl rfl rfl (by kernel_rfl) (by kernel_rfl) (by kernel_rfl) (by kernel_rfl) (fun _ _ _ h => h) (by rfl) ?hv8y20 hS2 ?h8y20
          case hv8y20 => intro u hSu; clear hSu; go_simp; (try with_reducible rfl)
          (try simp only [Act.put, List.setIfInBounds_toArray, List.set_cons_zero, List.set_cons_succ])
          refine regN_takeC [31, 30, 25, 24, 23] (i := 22) (d := (some 57)) (v := ?v8y21) (l2 := #[true, true, true, true, true, true, true, true, true, true, true, true, true, true, true, true, true, true, true, true, true, true, true, false, false, false, false, false, false, false, false, false, false]) rfl rfl rfl (by kernel_rfl) (by kernel_rfl) (by kernel_rfl) (by kernel_rfl) (fun _ _ _ h => h) (by rfl) ?hv8y21 hS2 ?h8y21
          case hv8y21 => intro u hSu; clear hSu; go_simp; (try with_reducible rfl)
          (try simp only [Act.put, List.setIfInBounds_toArray, List.set_cons_zero, List.set_cons_succ])
          refine regN_takeC [31, 30, 25, 24] (i := 23) (d := (some 58)) (v := ?v8y22) (l2 := #[true, true, true, true, true, true, true, true, true, true, true, true, true, true, true, true, true, true, true, true, true, true, true, true, false, false, false, false, false, false, false, false, false]) rfl rfl rfl (by kernel_rfl) (by kernel_rfl) (by kernel_rfl) (by kernel_rfl) (fun _ _ _ h => h) (by rfl) ?hv8y22 hS2 ?h8y22
          case hv8y22 => intro u hSu; clear hSu; go_simp; (try with_reducible rfl)
          (try simp only [Act.put, List.setIfInBounds_toArray, List.set_cons_zero, List.set_cons_succ])
          refine regN_takeC [31, 30, 29, 28] (i := 26) (d := (some 61)) (v := ?v8y23) (l2 := #[true, true, true, true, true, true, true, true, true, true, true, true, true, true, true, true, true, true, true, true, true, true, true, true, false, false, true, false, false, false, false, false, false]) rfl rfl rfl (by kernel_rfl) (by kernel_rfl) (by kernel_rfl) (by kernel_rfl) (fun _ _ _ h => h) (by rfl) ?hv8y23 hS2 ?h8y23
          case hv8y23 => intro u hSu; clear hSu; go_simp; (try with_reducible rfl)
          (try simp only [Act.put, List.setIfInBounds_toArray, List.set_cons_zero, List.set_cons_succ])
          refine regN_takeC [31, 30, 29, 28] (i := 27) (d := (some 62)) (v := ?v8y24) (l2 := #[true, true, true, true, true, true, true, true, true, true, true, true, true, true, true, true, true, true, true, true, true, true, true, true, false, false, true, true, false, false, false, false, false]) rfl rfl rfl (by kernel_rfl) (by kernel_rfl) (by kernel_rfl) (by kernel_rfl) (fun _ _ _ h => h) (by rfl) ?hv8y24 hS2 ?h8y24
          case hv8y24 => intro u hSu; clear hSu; go_simp; (try with_reducible rfl)
          (try simp only [Act.put, List.setIfInBounds_toArray, List.set_cons_zero, List.set_cons_succ])
          refine regN_ready (rs := [24, 28]) (by kernel_rfl) (by simp) ?_
          refine (AllN.cons (i := 24) (l2 := #[true, true, true, true, true, true, true, true, true, true, true, true, true, true, true, true, true, true, true, true, true, true, true, true, true, false, true, true, false, false, false, false, false]) rfl rfl (fun K hK => ?_) (AllN.cons (i := 28) (l2 := #[true, true, true, true, true, true, true, true, true, true, true, true, true, true, true, true, true, true, true, true, true, true, true, true, false, false, true, true, true, false, false, false, false]) rfl rfl (fun K hK => ?_) AllN.nil))
          · go_simp
            (try rw [if_pos hip])
            (try go_simp)
            have hS3 : ((fun W' => W'.cell? ⟨g, i + 1, none⟩ = some (.string s) ∧ W'.cell? ⟨g, i, none⟩ = some (.string t) ∧ W'.cell? ⟨B13, 3, none⟩ = some (.bool true) ∧ Below w.heap.size w W' ∧ W'.ownsRow w1.heap.size 9 1 (.slice (some ⟨g, 0, none⟩) p pc) p (strs P)) : World → Prop) _ := (show (fun W' => W'.cell? ⟨g, i + 1, none⟩ = some (.string s) ∧ W'.cell? ⟨g, i, none⟩ = some (.string t) ∧ W'.cell? ⟨B13, 3, none⟩ = some (.bool true) ∧ Below w.heap.size w W' ∧ W'.ownsRow w1.heap.size 9 1 (.slice (some ⟨g, 0, none⟩) p pc) p (strs P)) _ from ⟨q1, q2, q3, HBN.out, HON.out⟩)
            refine hK _ _ (fun _ => hS3) ?_
            clear hK K
            (try simp only [Act.put, List.setIfInBounds_toArray, List.set_cons_zero, List.set_cons_succ])
            refine regN_takeC [31, 30] (i := 25) (d := (some 60)) (v := ?v8y25) (l2 := #[true, true, true, true, true, true, true, true, true, true, true, true, true, true, true, true, true, true, true, true, true, true, true, true, true, true, true, true, false, false, false, false, false]) rfl rfl rfl (by kernel_rfl) (by kernel_rfl) (by kernel_rfl) (by kernel_rfl) (fun _ _ _ h => h) (by rfl) ?hv8y25 hS3 ?h8y25
            case hv8y25 => intro u hSu; (try dsimp only at hSu); (try go_split_ands); go_simp; (try with_reducible rfl)
            (try simp only [Act.put, List.setIfInBounds_toArray, List.set_cons_zero, List.set_cons_succ])
            refine regN_ready (rs := [28]) (by kernel_rfl) (by simp) ?_
            refine (AllN.cons (i := 28) (l2 := #[true, true, true, true, true, true, true, true, true, true, true, true, true, true, true, true, true, true, true, true, true, true, true, true, true, true, true, true, true, false, false, false, false]) rfl rfl (fun K hK => ?_) AllN.nil)
            go_simp
            (try rw [if_pos (show i + 1 < p from hlt)])
            (try go_simp)
            have hS4 : ((fun W' => W'.cell? ⟨g, i + 1, none⟩ = some (.string s) ∧ W'.cell? ⟨g, i, none⟩ = some (.string t) ∧ W'.cell? ⟨B13, 3, none⟩ = some (.bool true) ∧ Below w.heap.size w W' ∧ W'.ownsRow w1.heap.size 9 1 (.slice (some ⟨g, 0, none⟩) p pc) p (strs P)) : World → Prop) _ := (show (fun W' => W'.cell? ⟨g, i + 1, none⟩ = some (.string s) ∧ W'.cell? ⟨g, i, none⟩ = some (.string t) ∧ W'.cell? ⟨B13, 3, none⟩ = some (.bool true) ∧ Below w.heap.size w W' ∧ W'.ownsRow w1.heap.size 9 1 (.slice (some ⟨g, 0, none⟩) p pc) p (strs P)) _ from ⟨q1, q2, q3, HBN.out, HON.out⟩)
            refine hK _ _ (fun _ => hS4) ?_
            clear hK K
            (try simp only [Act.put, List.setIfInBounds_toArray, List.set_cons_zero, List.set_cons_succ])
            refine regN_takeC [31, 30] (i := 29) (d := (some 64)) (v := ?v8y26) (l2 := #[true, true, true, true, true, true, true, true, true, true, true, true, true, true, true, true, true, true, true, true, true, true, true, true, true, true, true, true, true, true, false, false, false]) rfl rfl rfl (by kernel_rfl) (by kernel_rfl) (by kernel_rfl) (by kernel_rfl) (fun _ _ _ h => h) (by rfl) ?hv8y26 hS4 ?h8y26
            case hv8y26 => intro u hSu; (try dsimp only at hSu); (try go_split_ands); go_simp; (try with_reducible rfl)
            (try simp only [Act.put, List.setIfInBounds_toArray, List.set_cons_zero, List.set_cons_succ])
            refine regN_ready (rs := [30]) (by kernel_rfl) (by simp) ?_
            refine (AllN.cons (i := 30) (l2 := #[true, true, true, true, true, true, true, true, true, true, true, true, true, true, true, true, true, true, true, true, true, true, true, true, true, true, true, true, true, true, true, false, false]) rfl rfl (fun K hK => ?_) AllN.nil)
            go_simp
            have hS5 : ((fun W' => W'.cell? ⟨g, i + 1, none⟩ = some (.string s) ∧ W'.cell? ⟨g, i, none⟩ = some (.string t) ∧ W'.cell? ⟨B13, 3, none⟩ = some (.bool true) ∧ Below w.heap.size w W' ∧ W'.ownsRow w1.heap.size 9 1 (.slice (some ⟨g, 0, none⟩) p pc) p (strs P)) : World → Prop) _ := (show (fun W' => W'.cell? ⟨g, i + 1, none⟩ = some (.string s) ∧ W'.cell? ⟨g, i, none⟩ = some (.string t) ∧ W'.cell? ⟨B13, 3, none⟩ = some (.bool true) ∧ Below w.heap.size w W' ∧ W'.ownsRow w1.heap.size 9 1 (.slice (some ⟨g, 0, none⟩) p pc) p (strs P)) _ from ⟨q1, q2, q3, HBN.out, HON.out⟩)
            refine hK _ _ (fun _ => hS5) ?_
            clear hK K
            (try simp only [Act.put, List.setIfInBounds_toArray, List.set_cons_zero, List.set_cons_succ])
            refine regN_take (i := 31) (d := (some 66)) (v := ?v8y27) (l2 := #[true, true, true, true, true, true, true, true, true, true, true, true, true, true, true, true, true, true, true, true, true, true, true, true, true, true, true, true, true, true, true, true, false]) rfl rfl rfl (by kernel_rfl) (by kernel_rfl) (by kernel_rfl) (by kernel_rfl) (fun _ _ _ h => h) (by rfl) ?hv8y27 hS5 ?h8y27
            case hv8y27 => intro u hSu; clear hSu; go_simp; (try with_reducible rfl)
            (try simp only [Act.put, List.setIfInBounds_toArray, List.set_cons_zero, List.set_cons_succ])
            refine regN_ready (rs := [32]) (by kernel_rfl) (by simp) ?_
            refine (AllN.cons (i := 32) (l2 := #[true, true, true, true, true, true, true, true, true, true, true, true, true, true, true, true, true, true, true, true, true, true, true, true, true, true, true, true, true, true, true, true, true]) rfl rfl (fun K hK => ?_) AllN.nil)
            go_simp
            refine hK _ _ (fun h => absurd rfl h) ?_
            clear hK K
            (try simp only [Act.put, List.setIfInBounds_toArray, List.set_cons_zero, List.set_cons_succ])
            refine regN_done (by kernel_rfl) ?_ _
            go_wp2
            go_roundw
            case rel => exact ⟨(i + 1) + 1, by go_num, by omega, HBN, HON⟩
            case measure => simp [intOf] <;> omega
          · go_simp
            (try rw [if_pos (show i + 1 < p from hlt)])
            (try go_simp)
            have hS3 : ((fun W' => W'.cell? ⟨g, i + 1, none⟩ = some (.string s) ∧ W'.cell? ⟨g, i, none⟩ = some (.string t) ∧ W'.cell? ⟨B13, 3, none⟩ = some (.bool true) ∧ Below w.heap.size w W' ∧ W'.ownsRow w1.heap.size 9 1 (.slice (some ⟨g, 0, none⟩) p pc) p (strs P)) : World → Prop) _ := (show (fun W' => W'.cell? ⟨g, i + 1, none⟩ = some (.string s) ∧ W'.cell? ⟨g, i, none⟩ = some (.string t) ∧ W'.cell? ⟨B13, 3, none⟩ = some (.bool true) ∧ Below w.heap.size w W' ∧ W'.ownsRow w1.heap.size 9 1 (.slice (some ⟨g, 0, none⟩) p pc) p (strs P)) _ from ⟨q1, q2, q3, HBN.out, HON.out⟩)
            refine hK _ _ (fun _ => hS3) ?_
            clear hK K
            (try simp only [Act.put, List.setIfInBounds_toArray, List.set_cons_zero, List.set_cons_succ])
            refine regN_takeC [31, 30] (i := 29) (d := (some 64)) (v := ?v8y28) (l2 := #[true, true, true, true, true, true, true, true, true, true, true, true, true, true, true, true, true, true, true, true, true, true, true, true, false, false, true, true, true, true, false, false, false]) rfl rfl rfl (by kernel_rfl) (by kernel_rfl) (by kernel_rfl) (by kernel_rfl) (fun _ _ _ h => h) (by rfl) ?hv8y28 hS3 ?h8y28
            case hv8y28 => intro u hSu; (try dsimp only at hSu); (try go_split_ands); go_simp; (try with_reducible rfl)
            (try simp only [Act.put, List.setIfInBounds_toArray, List.set_cons_zero, List.set_cons_succ])
            refine regN_ready (rs := [24]) (by kernel_rfl) (by simp) ?_
            refine (AllN.cons (i := 24) (l2 := #[true, true, true, true, true, true, true, true, true, true, true, true, true, true, true, true, true, true, true, true, true, true, true, true, true, false, true, true, true, true, false, false, false]) rfl rfl (fun K hK => ?_) AllN.nil)
            go_simp
            (try rw [if_pos hip])
            (try go_simp)
            have hS4 : ((fun W' => W'.cell? ⟨g, i + 1, none⟩ = some (.string s) ∧ W'.cell? ⟨g, i, none⟩ = some (.string t) ∧ W'.cell? ⟨B13, 3, none⟩ = some (.bool true) ∧ Below w.heap.size w W' ∧ W'.ownsRow w1.heap.size 9 1 (.slice (some ⟨g, 0, none⟩) p pc) p (strs P)) : World → Prop) _ := (show (fun W' => W'.cell? ⟨g, i + 1, none⟩ = some (.string s) ∧ W'.cell? ⟨g, i, none⟩ = some (.string t) ∧ W'.cell? ⟨B13, 3, none⟩ = some (.bool true) ∧ Below w.heap.size w W' ∧ W'.ownsRow w1.heap.size 9 1 (.slice (some ⟨g, 0, none⟩) p pc) p (strs P)) _ from ⟨q1, q2, q3, HBN.out, HON.out⟩)
            refine hK _ _ (fun _ => hS4) ?_
            clear hK K
            (try simp only [Act.put, List.setIfInBounds_toArray, List.set_cons_zero, List.set_cons_succ])
            refine regN_takeC [31, 30] (i := 25) (d := (some 60)) (v := ?v8y29) (l2 := #[true, true, true, true, true, true, true, true, true, true, true, true, true, true, true, true, true, true, true, true, true, true, true, true, true, true, true, true, true, true, false, false, false]) rfl rfl rfl (by kernel_rfl) (by kernel_rfl) (by kernel_rfl) (by kernel_rfl) (fun _ _ _ h => h) (by rfl) ?hv8y29 hS4 ?h8y29
            case hv8y29 => intro u hSu; (try dsimp only at hSu); (try go_split_ands); go_simp; (try with_reducible rfl)
            (try simp only [Act.put, List.setIfInBounds_toArray, List.set_cons_zero, List.set_cons_succ])
            refine regN_ready (rs := [30]) (by kernel_rfl) (by simp) ?_
            refine (AllN.cons (i := 30) (l2 := #[true, true, true, true, true, true, true, true, true, true, true, true, true, true, true, true, true, true, true, true, true, true, true, true, true, true, true, true, true, true, true, false, false]) rfl rfl (fun K hK => ?_) AllN.nil)
            go_simp
            have hS5 : ((fun W' => W'.cell? ⟨g, i + 1, none⟩ = some (.string s) ∧ W'.cell? ⟨g, i, none⟩ = some (.string t) ∧ W'.cell? ⟨B13, 3, none⟩ = some (.bool true) ∧ Below w.heap.size w W' ∧ W'.ownsRow w1.heap.size 9 1 (.slice (some ⟨g, 0, none⟩) p pc) p (strs P)) : World → Prop) _ := (show (fun W' => W'.cell? ⟨g, i + 1, none⟩ = some (.string s) ∧ W'.cell? ⟨g, i, none⟩ = some (.string t) ∧ W'.cell? ⟨B13, 3, none⟩ = some (.bool true) ∧ Below w.heap.size w W' ∧ W'.ownsRow w1.heap.size 9 1 (.slice (some ⟨g, 0, none⟩) p pc) p (strs P)) _ from ⟨q1, q2, q3, HBN.out, HON.out⟩)
            refine hK _ _ (fun _ => hS5) ?_
            clear hK K
            (try simp only [Act.put, List.setIfInBounds_toArray, List.set_cons_zero, List.set_cons_succ])
            refine regN_take (i := 31) (d := (some 66)) (v := ?v8y30) (l2 := #[true, true, true, true, true, true, true, true, true, true, true, true, true, true, true, true, true, true, true, true, true, true, true, true, true, true, true, true, true, true, true, true, false]) rfl rfl rfl (by kernel_rfl) (by kernel_rfl) (by kernel_rfl) (by kernel_rfl) (fun _ _ _ h => h) (by rfl) ?hv8y30 hS5 ?h8y30
            case hv8y30 => intro u hSu; clear hSu; go_simp; (try with_reducible rfl)
            (try simp only [Act.put, List.setIfInBounds_toArray, List.set_cons_zero, List.set_cons_succ])
            refine regN_ready (rs := [32]) (by kernel_rfl) (by simp) ?_
            refine (AllN.cons (i := 32) (l2 := #[true, true, true, true, true, true, true, true, true, true, true, true, true, true, true, true, true, true, true, true, true, true, true, true, true, true, true, true, true, true, true, true, true]) rfl rfl (fun K hK => ?_) AllN.nil)
            go_simp
            refine hK _ _ (fun h => absurd rfl h) ?_
            clear hK K
            (try simp only [Act.put, List.setIfInBounds_toArray, List.set_cons_zero, List.set_cons_succ])
            refine regN_done (by kernel_rfl) ?_ _
            go_wp2
            go_roundw
            case rel => exact ⟨(i + 1) + 1, by go_num, by omega, HBN, HON⟩
            case measure => simp [intOf] <;> omega
      · obtain rfl : j = p := by omega
        clear HO
        go_upto_region 12 with (go_at_call 20; (with_reducible refine (KA.out _ HB.out).mono ?_); rintro e w3 ⟨rfl, hb3⟩; replace HB := Lib.hid (below_on HB.out hb3); clear hb3)
        have HB3 := Lib.hid (below_al HB.out (.cells #[.string x.nm, .string x.su, .slice x.iA x.n x.c, .bool x.isI] 30))
        generalize w3.alloc (.cells #[.string x.nm, .string x.su, .slice x.iA x.n x.c, .bool x.isI] 30) = W3 at HB3 ⊢
        clear HB
        go_wp2
        go_loopw [9, 12] (fun nv iv wi => ∃ i : Nat, iv = .int .i64 i ∧ i ≤ n ∧ nv = .int .i64 (N i) ∧ Hid (Below w.heap.size w wi)) (fun _ iv _ => n - (intOf iv).toNat)
        case atStart => exact ⟨0, rfl, Nat.zero_le _, by rw [HN0.out]; rfl, HB3⟩
        case round =>
          obtain ⟨i, rfl, hi, rfl, HB⟩ := hrel
          clear HB3
          by_cases hil : i < n
          · have hiL : i < L.length := by rw [HN.out]; exact hil
            obtain ⟨g, o, rfl, hgl, hok, c0, c1, c2, c3⟩ := (HL.out.up HB.out).at hiL
            have HST := Lib.hid (HNS.out i L[i] (List.getElem?_eq_getElem hiL))
            have hsz := hok.1
            have hNi := HNL.out i
            clear hok c1 c2
            generalize L[i] = y at c0 c3 HST hsz
            go_upto_region 15 with fail
            cases fa with
            | false =>
              have HN1 := Lib.hid (show N (i + 1) = N i by have := HST.out; simpa using this)
              go_wp2
              go_roundw
              case rel => exact ⟨i + 1, by go_num, by omega, by rw [HN1.out], HB⟩
              case measure => simp [intOf] <;> omega
            | true =>
              rcases Bool.eq_false_or_eq_true y.isI with hI | hI
              · rw [hI] at c3
                have KI := Lib.hid (fun (W : World) (h : Below w.heap.size w W) => HC.out a y.nm W ha hsz h)
                obtain ⟨v, hv⟩ : ∃ v, isV L a y.nm = v := ⟨_, rfl⟩
                have HST2 := Lib.hid (show N (i + 1) = N i + (if v = true then 1 else 0) by have := HST.out; rw [hI, hv] at this; simpa using this)
                have HVV := Lib.hid hv
                clear hI hv HST
                cases v with
                | false =>
                  have HN1 := Lib.hid (show N (i + 1) = N i by have := HST2.out; simpa using this)
                  go_wp2_with (go_at_call 23; (with_reducible refine (KI.out _ HB.out).mono ?_); rintro e w10 ⟨rfl, hb10⟩; rw [HVV.out]; have HBN := Lib.hid (below_on HB.out hb10); clear hb10)
                  go_roundw
                  case rel => exact ⟨i + 1, by go_num, by omega, by rw [HN1.out], HBN⟩
                  case measure => simp [intOf] <;> omega
                | true =>
                  have HN1 := Lib.hid (show N (i + 1) = N i + 1 by have := HST2.out; simpa using this)
                  go_wp2_with (go_at_call 23; (with_reducible refine (KI.out _ HB.out).mono ?_); rintro e w10 ⟨rfl, hb10⟩; rw [HVV.out]; have HBN := Lib.hid (below_on HB.out hb10); clear hb10)
                  go_roundw
                  case rel => exact ⟨i + 1, by go_num, by omega, by rw [HN1.out]; go_num, HBN⟩
                  case measure => simp [intOf] <;> omega
              · rw [hI] at c3
                have HN1 := Lib.hid (show N (i + 1) = N i by have := HST.out; rw [hI] at this; simpa using this)
                clear hI
                go_wp2
                go_roundw
                case rel => exact ⟨i + 1, by go_num, by omega, by rw [HN1.out], HB⟩
                case measure => simp [intOf] <;> omega
          · obtain rfl : i = n := by omega
            have hq := HNN.out
            rw [hq]
            go_wp2_with (go_at_call 16; (with_reducible refine (awake16_any _).mono ?_); rintro e w6 ⟨rfl, hb6⟩; replace HB := Lib.hid (below_on HB.out hb6); clear hb6)
            go_ret
            exact ⟨rfl, HB.out⟩
end Go.Proofs.YthifmcnemeiphaaDoor
