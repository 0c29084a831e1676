/- Layer 53, the reference: identifier. -/
import Derived.Test.YtfpdnhbbbadegaaGreatDoorTa
import Derived.Test.YtfpdnhbbbadegaaGreatDoorYh
namespace Go.Proofs.YtfpdnhbbbadegaaGreatDoor
open Go.ChangeShapes Go.WideShapes Go.ChangeAt Go.RowKit Go.PlainAid
set_option linter.unusedSimpArgs false
set_option linter.unusedVariables false

/-- what the reference says of the token at a, whose text begins the rest -/
structure RsV (a : Nat) (o : Option Sc) (v : Value) : Prop where
  ex : ∃ (k n b e : Int) (t : ByteArray) (ok : Bool), v = .tuple #[.agg #[.int .i64 k, .string t, .int .i64 n, .int .i64 b], .int .i64 e, .bool ok] ∧
    (∀ x, o = some x → ok = true ∧ k = x.k ∧ t = bsB x.s ∧ n = x.n ∧ b = a ∧ e = ((a + x.z : Nat) : Int)) ∧ (o = none → ok = false)
theorem RsV.yes {a : Nat} {x : Sc} {k n b e : Int} {t : ByteArray} (h1 : k = x.k) (h2 : t = bsB x.s) (h3 : n = x.n) (h4 : b = a) (h5 : e = ((a + x.z : Nat) : Int)) :
    RsV a (some x) (.tuple #[.agg #[.int .i64 k, .string t, .int .i64 n, .int .i64 b], .int .i64 e, .bool true]) :=
  ⟨k, n, b, e, t, true, rfl, fun y hy => by injection hy with hy; subst hy; exact ⟨rfl, h1, h2, h3, h4, h5⟩, fun h => by cases h⟩
theorem RsV.no {a : Nat} {o : Option Sc} (ho : o = none) {k n b e : Int} {t : ByteArray} : RsV a o (.tuple #[.agg #[.int .i64 k, .string t, .int .i64 n, .int .i64 b], .int .i64 e, .bool false]) :=
  ⟨k, n, b, e, t, false, rfl, (fun y hy => by rw [ho] at hy; cases hy), fun _ => rfl⟩
theorem results_cell_tmp_tmp {fn : Func} {p u v : Tmp} {ty : TypeId} (h : fn.results = #[.cell p ty, .tmp u, .tmp v]) (tmps : Array Value) (P : Program) (w : World) :
    (results fn tmps).run P w =
      ((asAddr (tmps.getD p undef)).run P w).andThen fun a w₁ => ((loadVar ty a).run P w₁).andThen fun x w₂ => .ok (.tuple #[x, tmps.getD u undef, tmps.getD v undef]) w₂ := by
  simp only [results, h]
  simp [Sem.run_bind, Result.andThen]
theorem tk_ret3 {fn : Func} (hf : fn.results = #[.cell 4 27, .tmp 5, .tmp 6]) {a : Act} {w : World} {B : Nat} {x0 x1 x2 x3 : Value} (ht : a.tmps.getD 4 undef = .pointer (some ⟨B, 0, none⟩)) (hg : w.heap[B]? = some (.cells #[x0, x1, x2, x3] 27)) :
    (results fn a.tmps).run Tryz.prog w = .ok (.tuple #[.agg #[x0, x1, x2, x3], a.tmps.getD 5 undef, a.tmps.getD 6 undef]) w := by
  rw [results_cell_tmp_tmp hf, ht]
  obtain ⟨fs, hu⟩ := tok_under
  have hl := run_loadVar_row (P := Tryz.prog) w B 27 27 #[x0, x1, x2, x3] (0, 0) _ hg hu rfl tok_size
  simp [asAddr, Result.andThen, hl]
theorem kw_cls : ∀ t ∈ kwL, clsT t = true := by decide +kernel
theorem kw_clsT {t : List UInt8} (h : kwB t = true) : clsT t = true := kw_cls t (by unfold kwB at h; simpa using h)
theorem kw_cells (w : World) : ∀ (k : Nat) (x : List UInt8), kwL[k]? = some x → (w.alloc (strO kwL)).cell? ⟨w.heap.size, k, none⟩ = some (.string (bsB x)) := by
  intro k x hk
  have h := World.alloc_heap_new w (strO kwL)
  generalize w.alloc (strO kwL) = W at h ⊢
  unfold strO at h
  simp only [World.cell?, h]
  simp [hk]
set_option maxRecDepth 100000 in
set_option maxHeartbeats 4000000 in
theorem rident_any (s : ByteArray) (a : Nat) (hs : s.size ≤ 1000000) (ha : a < s.size) (h1 : letB (bt s a) = true) (w : World) :
    Calls Tryz.prog 44 #[.string s, .int .i64 (a : Int)] w fun e w' => (∃ v, e = .returned v ∧ RsV a (scNm (s.data.toList.drop a)) v) ∧ Below w.heap.size w w' := by
  have hlen := len_data s
  have hb := get_bt s
  obtain ⟨l, hl⟩ : ∃ l, s.data.toList.drop a = l := ⟨_, rfl⟩
  have hll : l.length = s.size - a := by rw [← hl, List.length_drop, hlen]
  obtain ⟨c, r, hd, hc, hr⟩ := drop_bt ha
  rw [hl] at hd ⊢
  have hpw : partL l = wdN l := part_wd hd (by unfold lt8; rw [hc, h1])
  have hwl := wd_le l
  obtain ⟨p, hp⟩ : ∃ p, a + wdN l = p := ⟨_, rfl⟩
  have hap : a ≤ p := by omega
  have hps : p ≤ s.size := by omega
  have K1 := Lib.hid (fun W => (by have h := rpart_any s a (by omega) (by omega) W; rw [hl, hp] at h; exact h : Calls Tryz.prog 72 #[.string s, .int .i64 (a : Int)] W fun e w' => e = .returned (.int .i64 (p : Nat)) ∧ W = w'))
  have HI := Lib.hid (show NmI l (p - a) (s.extract a p) by
    have e : p - a = partL l := by omega
    refine ⟨by omega, by rw [ByteArray.size_extract]; omega, ?_⟩
    rw [e, data_extract, hl, e]
    exact ⟨rfl, rfl⟩)
  have HL := Lib.hid hl
  have HLL := Lib.hid hll
  have HZ := Lib.hid (World.alloc_heap_new w (tkO (.int .i64 0) (.string ⟨#[]⟩) (.int .i64 0) (.int .i64 0)))
  have HB := Lib.hid (below_al (Below.refl w.heap.size w) (tkO (.int .i64 0) (.string ⟨#[]⟩) (.int .i64 0) (.int .i64 0)))
  unfold tkO at HZ HB
  clear hl hll hd hc hr hpw hwl hp h1
  go_enter Tryz.func44, Tryz.ntmps44
  go_upto_region 1 with fail
  generalize w.alloc (.cells #[.int .i64 0, .string ⟨#[]⟩, .int .i64 0, .int .i64 0] 27) = W1 at HZ HB ⊢
  go_wp2_with (go_at_call 72; (with_reducible refine (K1.out _).mono ?_); rintro e w' ⟨rfl, rfl⟩)
  go_loopw [7, 8] (fun nn tt wr => ∃ (n : Nat) (t : ByteArray), nn = .int .i64 n ∧ tt = .string t ∧ a ≤ n ∧ n ≤ s.size ∧ NmI l (n - a) t ∧ wr = W1) (fun nn _ _ => s.size - (intOf nn).toNat)
  case atStart => exact ⟨p, _, rfl, rfl, hap, hps, HI.out, rfl⟩
  case round =>
    obtain ⟨n, t, rfl, rfl, han, hns, hI, rfl⟩ := hrel
    clear HI
    have hts := hI.ts
    have HI2 := Lib.hid hI
    have hdd : s.data.toList.drop n = l.drop (n - a) := by rw [← HL.out, List.drop_drop, show a + (n - a) = n by omega]
    have HDD := Lib.hid hdd
    have HST := Lib.hid (nm_step hI.le)
    have KP := Lib.hid (fun W => (by have h := ris_any s ⟨#[58, 58]⟩ n (by omega) (by decide) hns W; rw [hdd] at h; exact h : Calls Tryz.prog 42 #[.string s, .int .i64 (n : Int), .string ⟨#[58, 58]⟩] W fun e w' => e = .returned (.bool ([58, 58].isPrefixOf (l.drop (n - a)))) ∧ W = w'))
    have HEND := Lib.hid (fun (h0 : nmGo l.length (l.drop (n - a)) = ([], 0)) => (show t.data.toList = nmT l ∧ n = a + nmZ l by
      have h2 := HI2.out.full
      rw [h0, List.append_nil] at h2
      exact ⟨h2.1, by have := h2.2; simp only at this; omega⟩))
    clear hI hdd
    by_cases hgo : [58, 58].isPrefixOf (l.drop (n - a)) = true ∧ partL (l.drop (n - a + 2)) ≠ 0
    · obtain ⟨hpx, hm0⟩ := hgo
      have h2 := pfx_len hpx
      rw [List.length_drop, HLL.out] at h2
      simp only [List.length_cons, List.length_nil] at h2
      have hn2 : n + 2 < s.size := by
        rcases Nat.lt_or_ge (n + 2) s.size with h | h
        · exact h
        · exact absurd (by rw [List.drop_eq_nil_of_le (by rw [HLL.out]; omega)]; rfl) hm0
      have hdd2 : s.data.toList.drop (n + 2) = l.drop (n - a + 2) := by rw [← HL.out, List.drop_drop, show a + (n - a + 2) = n + 2 by omega]
      obtain ⟨c2, r2, hd2, hc2, _⟩ := drop_bt hn2
      rw [hdd2] at hd2
      have hlt : letB (bt s (n + 2)) = true := by
        cases hx : letB (bt s (n + 2)) with
        | true => rfl
        | false => exact absurd (part_no hd2 (by unfold lt8; rw [hc2, hx])) hm0
      have hpw2 : partL (l.drop (n - a + 2)) = wdN (l.drop (n - a + 2)) := part_wd hd2 (by unfold lt8; rw [hc2, hlt])
      obtain ⟨m, hm⟩ : ∃ m, wdN (l.drop (n - a + 2)) = m := ⟨_, rfl⟩
      have hml := wd_le (l.drop (n - a + 2))
      rw [hm, List.length_drop, HLL.out] at hml
      rw [hm] at hpw2
      obtain ⟨q, hq⟩ : ∃ q, n + 2 + m = q := ⟨_, rfl⟩
      have KM := Lib.hid (fun W => (by have h := rpart_any s (n + 2) (by omega) (by omega) W; rw [hdd2, hm, hq] at h; exact h : Calls Tryz.prog 72 #[.string s, .int .i64 ((n + 2 : Nat) : Int)] W fun e w' => e = .returned (.int .i64 (q : Nat)) ∧ W = w'))
      have hx : (s.extract (n + 2) q).size = m := by rw [ByteArray.size_extract]; omega
      have HNX := Lib.hid (show NmI l (q - a) ((t ++ ⟨#[47]⟩) ++ s.extract (n + 2) q) by
        have e9 : q - a = n - a + (2 + m) := by omega
        rw [e9]
        refine ⟨by rw [HLL.out]; omega, ?_, ?_⟩
        · rw [ByteArray.size_append, ByteArray.size_append, hx]
          show t.size + 1 + m ≤ _
          omega
        · have h1 := HST.out
          rw [if_pos hpx, hpw2, if_neg (by omega)] at h1
          have h2 := HI2.out.full
          rw [h1] at h2
          have e : ((t ++ ⟨#[47]⟩) ++ s.extract (n + 2) q).data.toList = t.data.toList ++ 47 :: (l.drop (n - a + 2)).take m := by
            rw [ByteArray.data_append, ByteArray.data_append, Array.toList_append, Array.toList_append, data_extract, hdd2, show q - (n + 2) = m by omega]
            simp
          rw [e]
          refine ⟨?_, by have := h2.2; simp only at this; omega⟩
          rw [← h2.1, List.append_assoc])
      rw [hpx] at KP
      have hz1 : (⟨#[47]⟩ : ByteArray).size = 1 := rfl
      have hn2i : (n : Int) + 2 < (s.size : Int) := by omega
      have hq2 : n + 2 ≤ q := by omega
      have hqs : q ≤ s.size := by omega
      have hq2i : (n : Int) + 2 ≤ (q : Int) := by omega
      have hqsi : (q : Int) ≤ (s.size : Int) := by omega
      have hts2 : (t.size : Int) ≤ 1000000 := by omega
      have hxs2 : ((s.extract (n + 2) q).size : Int) ≤ 1000000 := by omega
      clear hpx hm0 hm hml hpw2 hd2 hc2 hdd2 h2 hq hx
      go_wp2_with (first | (go_at_call 42; with_reducible refine (KP.out _).mono ?_; rintro e w9 ⟨rfl, rfl⟩) | (go_at_call 43; refine (rlet_any _ _).mono ?_; rintro e w' ⟨rfl, rfl⟩) | (go_at_call 72; refine (KM.out _).mono ?_; rintro e w9 ⟨rfl, rfl⟩))
      refine ⟨⟨q, _, rfl, rfl, by omega, by omega, HNX.out, trivial⟩, ?_⟩
      simp [intOf]; omega
    · have h0 : nmGo l.length (l.drop (n - a)) = ([], 0) := by
        rw [HST.out]
        by_cases hpx : [58, 58].isPrefixOf (l.drop (n - a)) = true
        · rw [if_pos hpx, if_pos (Decidable.not_not.1 (fun h => hgo ⟨hpx, h⟩))]
        · rw [if_neg hpx]
      have HE := Lib.hid (HEND.out h0)
      -- how the loop is left
      have hgo' : [58, 58].isPrefixOf (l.drop (n - a)) = true → n + 2 < s.size → letB (bt s (n + 2)) = false := by
        intro hpx h2
        have hp0 : partL (l.drop (n - a + 2)) = 0 := Decidable.not_not.1 (fun h => hgo ⟨hpx, h⟩)
        have hdd2 : s.data.toList.drop (n + 2) = l.drop (n - a + 2) := by rw [← HL.out, List.drop_drop, show a + (n - a + 2) = n + 2 by omega]
        obtain ⟨c2, r2, hd2, hc2, _⟩ := drop_bt h2
        rw [hdd2] at hd2
        cases hx : letB (bt s (n + 2)) with
        | false => rfl
        | true =>
          have h9 := part_wd hd2 (by unfold lt8; rw [hc2, hx])
          rw [hp0] at h9
          unfold wdN at h9
          rw [hd2, List.takeWhile_cons, if_pos (by unfold nameB; rw [hc2, hx]; rfl), List.length_cons] at h9
          omega
      have HTD := Lib.hid (bsB_of (s := t) rfl)
      have HKC := Lib.hid (kw_cells wr)
      have KH := Lib.hid (fun (W : World) (h : ∀ (k : Nat) (x : List UInt8), kwL[k]? = some x → W.cell? ⟨wr.heap.size, k, none⟩ = some (.string (bsB x))) => (show Calls Tryz.prog 54 #[.slice (some ⟨wr.heap.size, 0, none⟩) 28 28, .string t] W (fun e w' => e = .returned (.bool (kwB t.data.toList)) ∧ W = w') from rhas_any (w := W) (g := wr.heap.size) (n := 28) (c := 28) (L := kwL) rfl (by decide) h t))
      have HB2 := Lib.hid (below_al HB.out (strO kwL))
      have HZ2 := Lib.hid (laid_old (o' := strO kwL) HZ.out)
      have KC := Lib.hid (fun W => rcls_any t (by omega) W)
      have hsc : scNm l = if clsT t.data.toList = true then some ⟨if kwB t.data.toList = true then 2 else 1, t.data.toList, 0, nmZ l⟩ else none := by
        unfold scNm; rw [← HE.out.1]
      have HSC := Lib.hid hsc
      have HCT := Lib.hid (clsB_T t)
      clear h0 hgo hsc
      cases hpx : [58, 58].isPrefixOf (l.drop (n - a)) with
      | false =>
        rw [hpx] at KP
        clear hpx hgo'
        have hcc : clsB t = clsT t.data.toList := HCT.out
        cases hk : kwB t.data.toList with
        | true =>
          have HK := Lib.hid hk
          rw [hk] at KH
          have HV := Lib.hid (show RsV a (scNm l) (.tuple #[.agg #[.int .i64 2, .string t, .int .i64 0, .int .i64 a], .int .i64 n, .bool true]) by
            rw [HSC.out, if_pos (kw_clsT hk), if_pos hk]; exact RsV.yes rfl HTD.out rfl rfl (by rw [HE.out.2]))
          clear hk hcc
          go_wp2_with (first | (go_at_call 42; with_reducible refine (KP.out _).mono ?_; rintro e w9 ⟨rfl, rfl⟩) | (go_at_call 43; refine (rlet_any _ _).mono ?_; rintro e w' ⟨rfl, rfl⟩) | (go_at_call 14; refine (rkws_any _).mono ?_; rintro e w9 ⟨rfl, rfl⟩; have hkc := HKC.out; generalize wr.alloc (strO kwL) = W2 at HB2 HZ2 hkc ⊢; have HK2 := Lib.hid hkc; clear hkc; obtain ⟨⟨z0, z1, z2, z3⟩, fz, yz⟩ := four_cellsT HZ2.out) | (go_at_call 54; refine (KH.out _ HK2.out).mono ?_; rintro e w9 ⟨rfl, rfl⟩))
          refine bodyPost_ret (tk_ret3 rfl rfl (set_fourT HZ2.out)) rfl ?_
          exact ⟨⟨_, rfl, HV.out⟩, four_belowT HB2.out (Nat.le_refl _)⟩
        | false =>
          have HK := Lib.hid hk
          rw [hk] at KH
          have HV := Lib.hid (show RsV a (scNm l) (.tuple #[.agg #[.int .i64 1, .string t, .int .i64 0, .int .i64 a], .int .i64 n, .bool (clsB t)]) by
            rw [HSC.out, hcc]
            cases hq : clsT t.data.toList with
            | true => rw [if_pos rfl, if_neg (by rw [hk]; decide)]; exact RsV.yes rfl HTD.out rfl rfl (by rw [HE.out.2])
            | false => rw [if_neg (by decide)]; exact RsV.no rfl)
          obtain ⟨B, hB⟩ : ∃ B, clsB t = B := ⟨_, rfl⟩
          rw [hB] at KC HV
          clear hk hcc hB
          go_wp2_with (first | (go_at_call 42; with_reducible refine (KP.out _).mono ?_; rintro e w9 ⟨rfl, rfl⟩) | (go_at_call 43; refine (rlet_any _ _).mono ?_; rintro e w' ⟨rfl, rfl⟩) | (go_at_call 14; refine (rkws_any _).mono ?_; rintro e w9 ⟨rfl, rfl⟩; have hkc := HKC.out; generalize wr.alloc (strO kwL) = W2 at HB2 HZ2 hkc ⊢; have HK2 := Lib.hid hkc; clear hkc; obtain ⟨⟨z0, z1, z2, z3⟩, fz, yz⟩ := four_cellsT HZ2.out) | (go_at_call 54; refine (KH.out _ HK2.out).mono ?_; rintro e w9 ⟨rfl, rfl⟩) | (go_at_call 32; refine (KC.out _).mono ?_; rintro e w9 ⟨rfl, rfl⟩))
          refine bodyPost_ret (tk_ret3 rfl rfl (set_fourT HZ2.out)) rfl ?_
          exact ⟨⟨_, rfl, HV.out⟩, four_belowT HB2.out (Nat.le_refl _)⟩
      | true =>
        have hgx := hgo' hpx
        rw [hpx] at KP
        clear hpx hgo'
        by_cases h2 : n + 2 < s.size
        · have hlf := hgx h2
          have h2i : (n : Int) + 2 < (s.size : Int) := by omega
          clear hgx
          have hcc : clsB t = clsT t.data.toList := HCT.out
          cases hk : kwB t.data.toList with
          | true =>
            have HK := Lib.hid hk
            rw [hk] at KH
            have HV := Lib.hid (show RsV a (scNm l) (.tuple #[.agg #[.int .i64 2, .string t, .int .i64 0, .int .i64 a], .int .i64 n, .bool true]) by
              rw [HSC.out, if_pos (kw_clsT hk), if_pos hk]; exact RsV.yes rfl HTD.out rfl rfl (by rw [HE.out.2]))
            clear hk hcc
            go_wp2_with (first | (go_at_call 42; with_reducible refine (KP.out _).mono ?_; rintro e w9 ⟨rfl, rfl⟩) | (go_at_call 43; refine (rlet_any _ _).mono ?_; rintro e w' ⟨rfl, rfl⟩) | (go_at_call 14; refine (rkws_any _).mono ?_; rintro e w9 ⟨rfl, rfl⟩; have hkc := HKC.out; generalize wr.alloc (strO kwL) = W2 at HB2 HZ2 hkc ⊢; have HK2 := Lib.hid hkc; clear hkc; obtain ⟨⟨z0, z1, z2, z3⟩, fz, yz⟩ := four_cellsT HZ2.out) | (go_at_call 54; refine (KH.out _ HK2.out).mono ?_; rintro e w9 ⟨rfl, rfl⟩))
            refine bodyPost_ret (tk_ret3 rfl rfl (set_fourT HZ2.out)) rfl ?_
            exact ⟨⟨_, rfl, HV.out⟩, four_belowT HB2.out (Nat.le_refl _)⟩
          | false =>
            have HK := Lib.hid hk
            rw [hk] at KH
            have HV := Lib.hid (show RsV a (scNm l) (.tuple #[.agg #[.int .i64 1, .string t, .int .i64 0, .int .i64 a], .int .i64 n, .bool (clsB t)]) by
              rw [HSC.out, hcc]
              cases hq : clsT t.data.toList with
              | true => rw [if_pos rfl, if_neg (by rw [hk]; decide)]; exact RsV.yes rfl HTD.out rfl rfl (by rw [HE.out.2])
              | false => rw [if_neg (by decide)]; exact RsV.no rfl)
            obtain ⟨B, hB⟩ : ∃ B, clsB t = B := ⟨_, rfl⟩
            rw [hB] at KC HV
            clear hk hcc hB
            go_wp2_with (first | (go_at_call 42; with_reducible refine (KP.out _).mono ?_; rintro e w9 ⟨rfl, rfl⟩) | (go_at_call 43; refine (rlet_any _ _).mono ?_; rintro e w' ⟨rfl, rfl⟩) | (go_at_call 14; refine (rkws_any _).mono ?_; rintro e w9 ⟨rfl, rfl⟩; have hkc := HKC.out; generalize wr.alloc (strO kwL) = W2 at HB2 HZ2 hkc ⊢; have HK2 := Lib.hid hkc; clear hkc; obtain ⟨⟨z0, z1, z2, z3⟩, fz, yz⟩ := four_cellsT HZ2.out) | (go_at_call 54; refine (KH.out _ HK2.out).mono ?_; rintro e w9 ⟨rfl, rfl⟩) | (go_at_call 32; refine (KC.out _).mono ?_; rintro e w9 ⟨rfl, rfl⟩))
            refine bodyPost_ret (tk_ret3 rfl rfl (set_fourT HZ2.out)) rfl ?_
            exact ⟨⟨_, rfl, HV.out⟩, four_belowT HB2.out (Nat.le_refl _)⟩
        · have h2i : ¬ (n : Int) + 2 < (s.size : Int) := by omega
          clear hgx
          have hcc : clsB t = clsT t.data.toList := HCT.out
          cases hk : kwB t.data.toList with
          | true =>
            have HK := Lib.hid hk
            rw [hk] at KH
            have HV := Lib.hid (show RsV a (scNm l) (.tuple #[.agg #[.int .i64 2, .string t, .int .i64 0, .int .i64 a], .int .i64 n, .bool true]) by
              rw [HSC.out, if_pos (kw_clsT hk), if_pos hk]; exact RsV.yes rfl HTD.out rfl rfl (by rw [HE.out.2]))
            clear hk hcc
            go_wp2_with (first | (go_at_call 42; with_reducible refine (KP.out _).mono ?_; rintro e w9 ⟨rfl, rfl⟩) | (go_at_call 43; refine (rlet_any _ _).mono ?_; rintro e w' ⟨rfl, rfl⟩) | (go_at_call 14; refine (rkws_any _).mono ?_; rintro e w9 ⟨rfl, rfl⟩; have hkc := HKC.out; generalize wr.alloc (strO kwL) = W2 at HB2 HZ2 hkc ⊢; have HK2 := Lib.hid hkc; clear hkc; obtain ⟨⟨z0, z1, z2, z3⟩, fz, yz⟩ := four_cellsT HZ2.out) | (go_at_call 54; refine (KH.out _ HK2.out).mono ?_; rintro e w9 ⟨rfl, rfl⟩))
            refine bodyPost_ret (tk_ret3 rfl rfl (set_fourT HZ2.out)) rfl ?_
            exact ⟨⟨_, rfl, HV.out⟩, four_belowT HB2.out (Nat.le_refl _)⟩
          | false =>
            have HK := Lib.hid hk
            rw [hk] at KH
            have HV := Lib.hid (show RsV a (scNm l) (.tuple #[.agg #[.int .i64 1, .string t, .int .i64 0, .int .i64 a], .int .i64 n, .bool (clsB t)]) by
              rw [HSC.out, hcc]
              cases hq : clsT t.data.toList with
              | true => rw [if_pos rfl, if_neg (by rw [hk]; decide)]; exact RsV.yes rfl HTD.out rfl rfl (by rw [HE.out.2])
              | false => rw [if_neg (by decide)]; exact RsV.no rfl)
            obtain ⟨B, hB⟩ : ∃ B, clsB t = B := ⟨_, rfl⟩
            rw [hB] at KC HV
            clear hk hcc hB
            go_wp2_with (first | (go_at_call 42; with_reducible refine (KP.out _).mono ?_; rintro e w9 ⟨rfl, rfl⟩) | (go_at_call 43; refine (rlet_any _ _).mono ?_; rintro e w' ⟨rfl, rfl⟩) | (go_at_call 14; refine (rkws_any _).mono ?_; rintro e w9 ⟨rfl, rfl⟩; have hkc := HKC.out; generalize wr.alloc (strO kwL) = W2 at HB2 HZ2 hkc ⊢; have HK2 := Lib.hid hkc; clear hkc; obtain ⟨⟨z0, z1, z2, z3⟩, fz, yz⟩ := four_cellsT HZ2.out) | (go_at_call 54; refine (KH.out _ HK2.out).mono ?_; rintro e w9 ⟨rfl, rfl⟩) | (go_at_call 32; refine (KC.out _).mono ?_; rintro e w9 ⟨rfl, rfl⟩))
            refine bodyPost_ret (tk_ret3 rfl rfl (set_fourT HZ2.out)) rfl ?_
            exact ⟨⟨_, rfl, HV.out⟩, four_belowT HB2.out (Nat.le_refl _)⟩

end Go.Proofs.YtfpdnhbbbadegaaGreatDoor
