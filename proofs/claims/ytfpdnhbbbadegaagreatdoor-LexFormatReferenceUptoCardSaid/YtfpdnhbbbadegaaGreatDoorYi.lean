/- Layer 53: scanNumber. (gen/yi.py) -/
import Derived.Test.YtfpdnhbbbadegaaGreatDoorYg
import Derived.Lib.AtoiErrMem
namespace Go.Proofs.YtfpdnhbbbadegaaGreatDoor
open Go.ChangeShapes Go.WideShapes Go.ChangeAt Go.RowKit Go.PlainAid
set_option linter.unusedSimpArgs false
set_option linter.unusedVariables false

theorem puM_dig (M : Nat) : ∀ (l : List UInt8) (acc : Nat), (∀ c ∈ l, dg8 c = true) → Lib.parseUintM M acc l ≠ synN
  | [], _, _ => by unfold Lib.parseUintM; exact fun h => synN_ok h.symm
  | c :: r, acc, h => by
    have hc := h c List.mem_cons_self
    unfold dg8 digB at hc
    rw [decide_eq_true_eq] at hc
    unfold Lib.parseUintM
    rw [if_pos (by omega)]
    split
    · intro h; unfold synN Lib.parseUintM at h; rw [if_neg (by decide)] at h; cases h
    · split
      · intro h; unfold synN Lib.parseUintM at h; rw [if_neg (by decide)] at h; cases h
      · exact puM_dig M r _ fun x hx => h x (List.mem_cons_of_mem _ hx)
theorem pi_dig {B : Nat} {l : List UInt8} (hl : ∀ c ∈ l, dg8 c = true) (h0 : l ≠ []) (h : okI (Lib.parseIntB B l) = none) : Lib.parseIntB B l = .range := by
  cases l with
  | nil => exact absurd rfl h0
  | cons c r =>
    have hc := hl c List.mem_cons_self
    unfold dg8 digB at hc
    rw [decide_eq_true_eq] at hc
    rw [Lib.parseIntB_plain B c r (by omega) (by omega)] at h ⊢
    have hs : Lib.parseUintB B (c :: r) ≠ synN := by
      unfold Lib.parseUintB
      rw [if_neg (by simp)]
      exact puM_dig _ _ _ hl
    revert h hs
    cases Lib.parseUintB B (c :: r) with
    | ok u =>
      intro h _
      unfold Lib.signlessC at h ⊢
      simp only at h ⊢
      split at h
      · rw [if_pos (by assumption)]
      · cases h
    | range => intro _ _; rfl
    | _ => intro _ h; exact absurd rfl h
theorem okI_ok {x : Lib.NumEnd Int} {v : Int} (h : okI x = some v) : x = .ok v := by
  cases x with
  | ok u => injection h with h; rw [h]
  | _ => cases h
theorem take_dg (l : List UInt8) : ∀ c ∈ l.take (dgN l), dg8 c = true := by
  intro c hc
  have e : l.take (dgN l) = l.takeWhile dg8 := by
    unfold dgN
    exact (List.prefix_iff_eq_take.mp (List.takeWhile_prefix _)).symm
  rw [e] at hc
  have : ∀ (l : List UInt8), c ∈ l.takeWhile dg8 → dg8 c = true := by
    intro l
    induction l with
    | nil => intro h; cases h
    | cons a r ih =>
      rw [List.takeWhile_cons]
      split
      · intro h
        rcases List.mem_cons.mp h with rfl | h
        · assumption
        · exact ih h
      · intro h; cases h
  exact this l hc
theorem nu_zero {l : List UInt8} (h : 1 < dgN l ∧ l.head? = some 48) : scNu l = none := by unfold scNu; rw [if_pos h]
theorem nu_l {l : List UInt8} {k : Nat} (hk : dgN l = k) (h : (l.drop k).head? = some 76) (hn : ¬ (1 < dgN l ∧ l.head? = some 48)) : scNu l = (okI (Lib.parseIntB 64 (l.take k))).map fun v => ⟨4, [], v, k + 1⟩ := by
  subst hk; unfold scNu; rw [if_neg hn, if_pos h]
theorem nu_i {l : List UInt8} {k : Nat} (hk : dgN l = k) (h : ¬ (l.drop k).head? = some 76) (hn : ¬ (1 < dgN l ∧ l.head? = some 48)) : scNu l = (okI (Lib.parseIntB 32 (l.take k))).map fun v => ⟨3, [], v, k⟩ := by
  subst hk; unfold scNu; rw [if_neg hn, if_neg h]
theorem pi_ok32 (t : ByteArray) (ht : t.size ≤ 281474976710656) (v : Int) (h : okI (Lib.parseIntB 32 t.data.toList) = some v) (w : World) (hL : Laid w) : Calls Tryz.prog 67 #[.string t, .int .i64 10, .int .i64 32] w fun e w' => e = .returned (.tuple #[.int .i64 v, .nilIface]) ∧ Below w.heap.size w w' := by
  refine (Tryz.strconv_ParseInt_10_at32_ok t (by omega) v (okI_ok h) w).mono ?_
  rintro e w' ⟨rfl, rfl | ⟨q, rfl⟩⟩
  · exact ⟨rfl, Below.refl _ _⟩
  · exact ⟨rfl, Lib.bytesWorld_below _ _ _⟩
theorem pi_no32 (t : ByteArray) (ht : 0 < t.size ∧ t.size ≤ 281474976710656) (h : okI (Lib.parseIntB 32 t.data.toList) = none) (hd : ∀ c ∈ t.data.toList, dg8 c = true) (w : World) (hL : Laid w) : Calls Tryz.prog 67 #[.string t, .int .i64 10, .int .i64 32] w fun e w' => (∃ x y, e = .returned (.tuple #[.int .i64 x, .iface 118 y])) ∧ Below w.heap.size w w' := by
  obtain ⟨ev, he, hev⟩ := hL.er
  have hne : t.data.toList ≠ [] := by intro h0; have := len_data t; rw [h0] at this; simp at this; omega
  refine (Tryz.strconv_ParseInt_10_at32_range t (by omega) (pi_dig hd hne h) ev w he hev).mono ?_
  rintro e w' ⟨N, rfl, -, -, hb⟩
  exact ⟨⟨_, _, rfl⟩, hb⟩
theorem pi_ok64 (t : ByteArray) (ht : t.size ≤ 281474976710656) (v : Int) (h : okI (Lib.parseIntB 64 t.data.toList) = some v) (w : World) (hL : Laid w) : Calls Tryz.prog 67 #[.string t, .int .i64 10, .int .i64 64] w fun e w' => e = .returned (.tuple #[.int .i64 v, .nilIface]) ∧ Below w.heap.size w w' := by
  refine (Tryz.strconv_ParseInt_10_at64_ok t (by omega) v (okI_ok h) w).mono ?_
  rintro e w' ⟨rfl, rfl | ⟨q, rfl⟩⟩
  · exact ⟨rfl, Below.refl _ _⟩
  · exact ⟨rfl, Lib.bytesWorld_below _ _ _⟩
theorem pi_no64 (t : ByteArray) (ht : 0 < t.size ∧ t.size ≤ 281474976710656) (h : okI (Lib.parseIntB 64 t.data.toList) = none) (hd : ∀ c ∈ t.data.toList, dg8 c = true) (w : World) (hL : Laid w) : Calls Tryz.prog 67 #[.string t, .int .i64 10, .int .i64 64] w fun e w' => (∃ x y, e = .returned (.tuple #[.int .i64 x, .iface 118 y])) ∧ Below w.heap.size w w' := by
  obtain ⟨ev, he, hev⟩ := hL.er
  have hne : t.data.toList ≠ [] := by intro h0; have := len_data t; rw [h0] at this; simp at this; omega
  refine (Tryz.strconv_ParseInt_10_at64_range t (by omega) (pi_dig hd hne h) ev w he hev).mono ?_
  rintro e w' ⟨N, rfl, -, -, hb⟩
  exact ⟨⟨_, _, rfl⟩, hb⟩
theorem bt_u8 {c : UInt8} {s : ByteArray} {k : Nat} (h : (c.toNat : Int) = bt s k) (n : UInt8) : c = n ↔ bt s k = (n.toNat : Int) := by
  rw [← h]
  constructor
  · rintro rfl; rfl
  · intro h; exact UInt8.toNat_inj.mp (by omega)
set_option maxRecDepth 100000 in
set_option maxHeartbeats 4000000 in
theorem scanNumber_any (s : ByteArray) (hs : s.size ≤ 281474976710656) (h0 : 0 < dgN s.data.toList) (w : World) (hL : Laid w) : Calls Tryz.prog 39 #[.string s] w fun e w' => e = .returned (scV (scNu s.data.toList)) ∧ Below w.heap.size w w' := by
  have hb := get_bt s
  have hlen := len_data s
  obtain ⟨l, hl⟩ : ∃ l, s.data.toList = l := ⟨_, rfl⟩
  obtain ⟨V, hV⟩ : ∃ V, scV (scNu s.data.toList) = V := ⟨_, rfl⟩
  have HV := Lib.hid (show scV (scNu l) = V by rw [← hl]; exact hV)
  rw [hV]
  have HL := Lib.hid hl
  rw [hl] at hlen h0
  have hdl := dgN_le l
  have hpos : 0 < s.size := by omega
  have H0 := Lib.hid (show l.head? = some 48 ↔ bt s 0 = 48 by
    obtain ⟨c, r, hd, hc, hr⟩ := drop_bt hpos
    rw [List.drop_zero, hl] at hd
    rw [hd, List.head?_cons, Option.some_inj]
    exact bt_u8 hc 48)
  have HLD := Lib.hid hL
  have HZ := Lib.hid (World.alloc_heap_new w (tkO (.int .i64 0) (.string ⟨#[]⟩) (.int .i64 0) (.int .i64 0)))
  have HB := Lib.hid (below_al (Below.refl w.heap.size w) (tkO (.int .i64 0) (.string ⟨#[]⟩) (.int .i64 0) (.int .i64 0)))
  unfold tkO at HZ HB
  clear hV hl hL
  go_enter Tryz.func39, Tryz.ntmps39
  go_upto_region 1 with fail
  generalize w.alloc (.cells #[.int .i64 0, .string ⟨#[]⟩, .int .i64 0, .int .i64 0] 27) = W1 at HZ HB ⊢
  go_wp2
  go_loopw [4] (fun i wr => ∃ k : Nat, i = .int .i64 k ∧ k ≤ s.size ∧ dgN l = k + ((l.drop k).takeWhile dg8).length ∧ wr = W1) (fun i _ => s.size - (intOf i).toNat)
  case atStart => exact ⟨0, rfl, Nat.zero_le _, by rw [List.drop_zero, Nat.zero_add]; rfl, rfl⟩
  case round =>
    obtain ⟨k, rfl, hk, hq, rfl⟩ := hrel
    have HQ := Lib.hid hq
    clear hq
    by_cases hlt : k < s.size
    · obtain ⟨c, r, hd, hc, hr⟩ := drop_bt hlt
      rw [HL.out] at hd hr
      have hb0 := bt_nonneg s k
      have hb1 := bt_le s k
      have HD := Lib.hid hd
      have HC := Lib.hid hc
      have HR := Lib.hid hr
      have HH := Lib.hid (show (l.drop k).head? = some 76 ↔ bt s k = 76 by
        rw [HD.out, List.head?_cons, Option.some_inj]
        exact bt_u8 HC.out 76)
      clear hd hc hr
      cases hg : digB (bt s k) with
      | true =>
        have HN := Lib.hid (show dgN l = (k + 1) + ((l.drop (k + 1)).takeWhile dg8).length by
          have e : dg8 c = true := by unfold dg8; rw [HC.out, hg]
          rw [HQ.out, HD.out, HR.out, List.takeWhile_cons, if_pos e, List.length_cons]; omega)
        go_wp2_with (first | (go_at_call 38; refine (ldig_any _ _).mono ?_; rintro e w' ⟨rfl, rfl⟩))
        refine ⟨⟨k + 1, by first | rfl | go_num, by omega, HN.out, trivial⟩, ?_⟩
        simp [intOf]; omega
      | false =>
        have HF := Lib.hid (show dg8 c = false by unfold dg8; rw [HC.out, hg])
        have HK := Lib.hid (show dgN l = k by rw [HQ.out, HD.out, List.takeWhile_cons, if_neg (by rw [HF.out]; decide)]; rfl)
        have HDG := Lib.hid (show ∀ c ∈ l.take k, dg8 c = true from by rw [← HK.out]; exact take_dg l)
        have hk0 : 0 < k := by have := HK.out; omega
        by_cases h1 : (1 : Int) < (k : Int)
        · by_cases h48 : bt s 0 = 48
          · have HN := Lib.hid (show V = .tuple #[.agg #[.int .i64 0, .string ⟨#[]⟩, .int .i64 0, .int .i64 0], .int .i64 0] by
              rw [← HV.out, nu_zero ⟨by rw [HK.out]; omega, H0.out.mpr h48⟩]; rfl)
            have e48 : (bt s 0 == 48) = true := by simpa using h48
            clear h48
            obtain ⟨⟨z0, z1, z2, z3⟩, fz, yz⟩ := four_cellsT HZ.out
            go_wp2_with (first | (go_at_call 38; refine (ldig_any _ _).mono ?_; rintro e w' ⟨rfl, rfl⟩))
            refine bodyPost_ret (tk_ret rfl rfl (set_fourT HZ.out)) rfl ?_
            exact ⟨by rw [HN.out]; rfl, four_belowT HB.out (Nat.le_refl _)⟩
          · have e48 : (bt s 0 == 48) = false := by simpa using h48
            have HNZ := Lib.hid (show ¬ (1 < dgN l ∧ l.head? = some 48) from fun h => h48 (H0.out.mp h.2))
            clear h48
            by_cases h76 : bt s k = 76
            · have e76 : (bt s k == 76) = true := by simpa using h76
              have H76 := Lib.hid (show (l.drop k).head? = some 76 from HH.out.mpr h76)
              clear h76
              cases hp : okI (Lib.parseIntB 64 (l.take k)) with
              | none =>
                have HN := Lib.hid (show V = .tuple #[.agg #[.int .i64 0, .string ⟨#[]⟩, .int .i64 0, .int .i64 0], .int .i64 0] by
                  rw [← HV.out, nu_l HK.out H76.out HNZ.out, hp]; rfl)
                have KI := Lib.hid (fun W hw => pi_no64 (s.extract 0 k) (by rw [ByteArray.size_extract]; omega) (by rw [data_extract, HL.out, List.drop_zero, Nat.sub_zero]; exact hp) (by rw [data_extract, HL.out, List.drop_zero, Nat.sub_zero]; exact HDG.out) W hw)
                clear hp
                go_wp2_with (first | (go_at_call 38; refine (ldig_any _ _).mono ?_; rintro e w' ⟨rfl, rfl⟩) | (go_at_call 67; (with_reducible refine (KI.out _ (HLD.out.up HB.out)).mono ?_); rintro e w2 ⟨⟨x, ty, y, rfl⟩, hb⟩; have HZ2 := Lib.hid ((hb.block _ (lt_heap HZ.out)).trans HZ.out); obtain ⟨⟨z0, z1, z2, z3⟩, fz, yz⟩ := four_cellsT HZ2.out; have HB2 := Lib.hid (below_on HB.out hb); clear hb))
                refine bodyPost_ret (tk_ret rfl rfl (set_fourT HZ2.out)) rfl ?_
                exact ⟨by rw [HN.out]; rfl, four_belowT HB2.out (Nat.le_refl _)⟩
              | some v =>
                have HN := Lib.hid (show V = .tuple #[.agg #[.int .i64 4, .string ⟨#[]⟩, .int .i64 v, .int .i64 0], .int .i64 ((k : Nat) + 1 : Int)] by
                  rw [← HV.out, nu_l HK.out H76.out HNZ.out, hp]; rfl)
                have KI := Lib.hid (fun W hw => pi_ok64 (s.extract 0 k) (by rw [ByteArray.size_extract]; omega) v (by rw [data_extract, HL.out, List.drop_zero, Nat.sub_zero]; exact hp) W hw)
                clear hp
                go_wp2_with (first | (go_at_call 38; refine (ldig_any _ _).mono ?_; rintro e w' ⟨rfl, rfl⟩) | (go_at_call 67; (with_reducible refine (KI.out _ (HLD.out.up HB.out)).mono ?_); rintro e w2 ⟨rfl, hb⟩; have HZ2 := Lib.hid ((hb.block _ (lt_heap HZ.out)).trans HZ.out); obtain ⟨⟨z0, z1, z2, z3⟩, fz, yz⟩ := four_cellsT HZ2.out; have HB2 := Lib.hid (below_on HB.out hb); clear hb))
                refine bodyPost_ret (tk_ret rfl rfl (set_fourT HZ2.out)) rfl ?_
                exact ⟨by rw [HN.out]; rfl, four_belowT HB2.out (Nat.le_refl _)⟩
            · have e76 : (bt s k == 76) = false := by simpa using h76
              have H76 := Lib.hid (show ¬ (l.drop k).head? = some 76 from fun h => h76 (HH.out.mp h))
              clear h76
              cases hp : okI (Lib.parseIntB 32 (l.take k)) with
              | none =>
                have HN := Lib.hid (show V = .tuple #[.agg #[.int .i64 0, .string ⟨#[]⟩, .int .i64 0, .int .i64 0], .int .i64 0] by
                  rw [← HV.out, nu_i HK.out H76.out HNZ.out, hp]; rfl)
                have KI := Lib.hid (fun W hw => pi_no32 (s.extract 0 k) (by rw [ByteArray.size_extract]; omega) (by rw [data_extract, HL.out, List.drop_zero, Nat.sub_zero]; exact hp) (by rw [data_extract, HL.out, List.drop_zero, Nat.sub_zero]; exact HDG.out) W hw)
                clear hp
                go_wp2_with (first | (go_at_call 38; refine (ldig_any _ _).mono ?_; rintro e w' ⟨rfl, rfl⟩) | (go_at_call 67; (with_reducible refine (KI.out _ (HLD.out.up HB.out)).mono ?_); rintro e w2 ⟨⟨x, ty, y, rfl⟩, hb⟩; have HZ2 := Lib.hid ((hb.block _ (lt_heap HZ.out)).trans HZ.out); obtain ⟨⟨z0, z1, z2, z3⟩, fz, yz⟩ := four_cellsT HZ2.out; have HB2 := Lib.hid (below_on HB.out hb); clear hb))
                refine bodyPost_ret (tk_ret rfl rfl (set_fourT HZ2.out)) rfl ?_
                exact ⟨by rw [HN.out]; rfl, four_belowT HB2.out (Nat.le_refl _)⟩
              | some v =>
                have HN := Lib.hid (show V = .tuple #[.agg #[.int .i64 3, .string ⟨#[]⟩, .int .i64 v, .int .i64 0], .int .i64 ((k : Nat) : Int)] by
                  rw [← HV.out, nu_i HK.out H76.out HNZ.out, hp]; rfl)
                have KI := Lib.hid (fun W hw => pi_ok32 (s.extract 0 k) (by rw [ByteArray.size_extract]; omega) v (by rw [data_extract, HL.out, List.drop_zero, Nat.sub_zero]; exact hp) W hw)
                clear hp
                go_wp2_with (first | (go_at_call 38; refine (ldig_any _ _).mono ?_; rintro e w' ⟨rfl, rfl⟩) | (go_at_call 67; (with_reducible refine (KI.out _ (HLD.out.up HB.out)).mono ?_); rintro e w2 ⟨rfl, hb⟩; have HZ2 := Lib.hid ((hb.block _ (lt_heap HZ.out)).trans HZ.out); obtain ⟨⟨z0, z1, z2, z3⟩, fz, yz⟩ := four_cellsT HZ2.out; have HB2 := Lib.hid (below_on HB.out hb); clear hb))
                refine bodyPost_ret (tk_ret rfl rfl (set_fourT HZ2.out)) rfl ?_
                exact ⟨by rw [HN.out]; rfl, four_belowT HB2.out (Nat.le_refl _)⟩
        · have HNZ := Lib.hid (show ¬ (1 < dgN l ∧ l.head? = some 48) from fun h => by have := HK.out; omega)
          by_cases h76 : bt s k = 76
          · have e76 : (bt s k == 76) = true := by simpa using h76
            have H76 := Lib.hid (show (l.drop k).head? = some 76 from HH.out.mpr h76)
            clear h76
            cases hp : okI (Lib.parseIntB 64 (l.take k)) with
            | none =>
              have HN := Lib.hid (show V = .tuple #[.agg #[.int .i64 0, .string ⟨#[]⟩, .int .i64 0, .int .i64 0], .int .i64 0] by
                rw [← HV.out, nu_l HK.out H76.out HNZ.out, hp]; rfl)
              have KI := Lib.hid (fun W hw => pi_no64 (s.extract 0 k) (by rw [ByteArray.size_extract]; omega) (by rw [data_extract, HL.out, List.drop_zero, Nat.sub_zero]; exact hp) (by rw [data_extract, HL.out, List.drop_zero, Nat.sub_zero]; exact HDG.out) W hw)
              clear hp
              go_wp2_with (first | (go_at_call 38; refine (ldig_any _ _).mono ?_; rintro e w' ⟨rfl, rfl⟩) | (go_at_call 67; (with_reducible refine (KI.out _ (HLD.out.up HB.out)).mono ?_); rintro e w2 ⟨⟨x, ty, y, rfl⟩, hb⟩; have HZ2 := Lib.hid ((hb.block _ (lt_heap HZ.out)).trans HZ.out); obtain ⟨⟨z0, z1, z2, z3⟩, fz, yz⟩ := four_cellsT HZ2.out; have HB2 := Lib.hid (below_on HB.out hb); clear hb))
              refine bodyPost_ret (tk_ret rfl rfl (set_fourT HZ2.out)) rfl ?_
              exact ⟨by rw [HN.out]; rfl, four_belowT HB2.out (Nat.le_refl _)⟩
            | some v =>
              have HN := Lib.hid (show V = .tuple #[.agg #[.int .i64 4, .string ⟨#[]⟩, .int .i64 v, .int .i64 0], .int .i64 ((k : Nat) + 1 : Int)] by
                rw [← HV.out, nu_l HK.out H76.out HNZ.out, hp]; rfl)
              have KI := Lib.hid (fun W hw => pi_ok64 (s.extract 0 k) (by rw [ByteArray.size_extract]; omega) v (by rw [data_extract, HL.out, List.drop_zero, Nat.sub_zero]; exact hp) W hw)
              clear hp
              go_wp2_with (first | (go_at_call 38; refine (ldig_any _ _).mono ?_; rintro e w' ⟨rfl, rfl⟩) | (go_at_call 67; (with_reducible refine (KI.out _ (HLD.out.up HB.out)).mono ?_); rintro e w2 ⟨rfl, hb⟩; have HZ2 := Lib.hid ((hb.block _ (lt_heap HZ.out)).trans HZ.out); obtain ⟨⟨z0, z1, z2, z3⟩, fz, yz⟩ := four_cellsT HZ2.out; have HB2 := Lib.hid (below_on HB.out hb); clear hb))
              refine bodyPost_ret (tk_ret rfl rfl (set_fourT HZ2.out)) rfl ?_
              exact ⟨by rw [HN.out]; rfl, four_belowT HB2.out (Nat.le_refl _)⟩
          · have e76 : (bt s k == 76) = false := by simpa using h76
            have H76 := Lib.hid (show ¬ (l.drop k).head? = some 76 from fun h => h76 (HH.out.mp h))
            clear h76
            cases hp : okI (Lib.parseIntB 32 (l.take k)) with
            | none =>
              have HN := Lib.hid (show V = .tuple #[.agg #[.int .i64 0, .string ⟨#[]⟩, .int .i64 0, .int .i64 0], .int .i64 0] by
                rw [← HV.out, nu_i HK.out H76.out HNZ.out, hp]; rfl)
              have KI := Lib.hid (fun W hw => pi_no32 (s.extract 0 k) (by rw [ByteArray.size_extract]; omega) (by rw [data_extract, HL.out, List.drop_zero, Nat.sub_zero]; exact hp) (by rw [data_extract, HL.out, List.drop_zero, Nat.sub_zero]; exact HDG.out) W hw)
              clear hp
              go_wp2_with (first | (go_at_call 38; refine (ldig_any _ _).mono ?_; rintro e w' ⟨rfl, rfl⟩) | (go_at_call 67; (with_reducible refine (KI.out _ (HLD.out.up HB.out)).mono ?_); rintro e w2 ⟨⟨x, ty, y, rfl⟩, hb⟩; have HZ2 := Lib.hid ((hb.block _ (lt_heap HZ.out)).trans HZ.out); obtain ⟨⟨z0, z1, z2, z3⟩, fz, yz⟩ := four_cellsT HZ2.out; have HB2 := Lib.hid (below_on HB.out hb); clear hb))
              refine bodyPost_ret (tk_ret rfl rfl (set_fourT HZ2.out)) rfl ?_
              exact ⟨by rw [HN.out]; rfl, four_belowT HB2.out (Nat.le_refl _)⟩
            | some v =>
              have HN := Lib.hid (show V = .tuple #[.agg #[.int .i64 3, .string ⟨#[]⟩, .int .i64 v, .int .i64 0], .int .i64 ((k : Nat) : Int)] by
                rw [← HV.out, nu_i HK.out H76.out HNZ.out, hp]; rfl)
              have KI := Lib.hid (fun W hw => pi_ok32 (s.extract 0 k) (by rw [ByteArray.size_extract]; omega) v (by rw [data_extract, HL.out, List.drop_zero, Nat.sub_zero]; exact hp) W hw)
              clear hp
              go_wp2_with (first | (go_at_call 38; refine (ldig_any _ _).mono ?_; rintro e w' ⟨rfl, rfl⟩) | (go_at_call 67; (with_reducible refine (KI.out _ (HLD.out.up HB.out)).mono ?_); rintro e w2 ⟨rfl, hb⟩; have HZ2 := Lib.hid ((hb.block _ (lt_heap HZ.out)).trans HZ.out); obtain ⟨⟨z0, z1, z2, z3⟩, fz, yz⟩ := four_cellsT HZ2.out; have HB2 := Lib.hid (below_on HB.out hb); clear hb))
              refine bodyPost_ret (tk_ret rfl rfl (set_fourT HZ2.out)) rfl ?_
              exact ⟨by rw [HN.out]; rfl, four_belowT HB2.out (Nat.le_refl _)⟩
    · obtain rfl : k = s.size := by omega
      have H76 := Lib.hid (show ¬ (l.drop s.size).head? = some 76 by rw [List.drop_eq_nil_of_le (by omega)]; intro h; cases h)
      have HW := Lib.hid (show l.take s.size = l from List.take_of_length_le (by omega))
      have HK := Lib.hid (show dgN l = s.size by rw [HQ.out, List.drop_eq_nil_of_le (by omega)]; rfl)
      have HDG := Lib.hid (show ∀ c ∈ l.take s.size, dg8 c = true from by rw [← HK.out]; exact take_dg l)
      have hk0 : 0 < s.size := by have := HK.out; omega
      by_cases h1 : (1 : Int) < (s.size : Int)
      · by_cases h48 : bt s 0 = 48
        · have HN := Lib.hid (show V = .tuple #[.agg #[.int .i64 0, .string ⟨#[]⟩, .int .i64 0, .int .i64 0], .int .i64 0] by
            rw [← HV.out, nu_zero ⟨by rw [HK.out]; omega, H0.out.mpr h48⟩]; rfl)
          have e48 : (bt s 0 == 48) = true := by simpa using h48
          clear h48
          obtain ⟨⟨z0, z1, z2, z3⟩, fz, yz⟩ := four_cellsT HZ.out
          go_wp2_with (first | (go_at_call 38; refine (ldig_any _ _).mono ?_; rintro e w' ⟨rfl, rfl⟩))
          refine bodyPost_ret (tk_ret rfl rfl (set_fourT HZ.out)) rfl ?_
          exact ⟨by rw [HN.out]; rfl, four_belowT HB.out (Nat.le_refl _)⟩
        · have e48 : (bt s 0 == 48) = false := by simpa using h48
          have HNZ := Lib.hid (show ¬ (1 < dgN l ∧ l.head? = some 48) from fun h => h48 (H0.out.mp h.2))
          clear h48
          cases hp : okI (Lib.parseIntB 32 (l.take s.size)) with
          | none =>
            have HN := Lib.hid (show V = .tuple #[.agg #[.int .i64 0, .string ⟨#[]⟩, .int .i64 0, .int .i64 0], .int .i64 0] by
              rw [← HV.out, nu_i HK.out H76.out HNZ.out, hp]; rfl)
            have KI := Lib.hid (fun W hw => pi_no32 s (by omega) (by rw [HL.out]; rw [HW.out] at hp; exact hp) (by have h := HDG.out; rw [HW.out] at h; rw [HL.out]; exact h) W hw)
            clear hp
            go_wp2_with (first | (go_at_call 38; refine (ldig_any _ _).mono ?_; rintro e w' ⟨rfl, rfl⟩) | (go_at_call 67; (with_reducible refine (KI.out _ (HLD.out.up HB.out)).mono ?_); rintro e w2 ⟨⟨x, ty, y, rfl⟩, hb⟩; have HZ2 := Lib.hid ((hb.block _ (lt_heap HZ.out)).trans HZ.out); obtain ⟨⟨z0, z1, z2, z3⟩, fz, yz⟩ := four_cellsT HZ2.out; have HB2 := Lib.hid (below_on HB.out hb); clear hb))
            refine bodyPost_ret (tk_ret rfl rfl (set_fourT HZ2.out)) rfl ?_
            exact ⟨by rw [HN.out]; rfl, four_belowT HB2.out (Nat.le_refl _)⟩
          | some v =>
            have HN := Lib.hid (show V = .tuple #[.agg #[.int .i64 3, .string ⟨#[]⟩, .int .i64 v, .int .i64 0], .int .i64 ((s.size : Nat) : Int)] by
              rw [← HV.out, nu_i HK.out H76.out HNZ.out, hp]; rfl)
            have KI := Lib.hid (fun W hw => pi_ok32 s (by omega) v (by rw [HL.out]; rw [HW.out] at hp; exact hp) W hw)
            clear hp
            go_wp2_with (first | (go_at_call 38; refine (ldig_any _ _).mono ?_; rintro e w' ⟨rfl, rfl⟩) | (go_at_call 67; (with_reducible refine (KI.out _ (HLD.out.up HB.out)).mono ?_); rintro e w2 ⟨rfl, hb⟩; have HZ2 := Lib.hid ((hb.block _ (lt_heap HZ.out)).trans HZ.out); obtain ⟨⟨z0, z1, z2, z3⟩, fz, yz⟩ := four_cellsT HZ2.out; have HB2 := Lib.hid (below_on HB.out hb); clear hb))
            refine bodyPost_ret (tk_ret rfl rfl (set_fourT HZ2.out)) rfl ?_
            exact ⟨by rw [HN.out]; rfl, four_belowT HB2.out (Nat.le_refl _)⟩
      · have HNZ := Lib.hid (show ¬ (1 < dgN l ∧ l.head? = some 48) from fun h => by have := HK.out; omega)
        cases hp : okI (Lib.parseIntB 32 (l.take s.size)) with
        | none =>
          have HN := Lib.hid (show V = .tuple #[.agg #[.int .i64 0, .string ⟨#[]⟩, .int .i64 0, .int .i64 0], .int .i64 0] by
            rw [← HV.out, nu_i HK.out H76.out HNZ.out, hp]; rfl)
          have KI := Lib.hid (fun W hw => pi_no32 s (by omega) (by rw [HL.out]; rw [HW.out] at hp; exact hp) (by have h := HDG.out; rw [HW.out] at h; rw [HL.out]; exact h) W hw)
          clear hp
          go_wp2_with (first | (go_at_call 38; refine (ldig_any _ _).mono ?_; rintro e w' ⟨rfl, rfl⟩) | (go_at_call 67; (with_reducible refine (KI.out _ (HLD.out.up HB.out)).mono ?_); rintro e w2 ⟨⟨x, ty, y, rfl⟩, hb⟩; have HZ2 := Lib.hid ((hb.block _ (lt_heap HZ.out)).trans HZ.out); obtain ⟨⟨z0, z1, z2, z3⟩, fz, yz⟩ := four_cellsT HZ2.out; have HB2 := Lib.hid (below_on HB.out hb); clear hb))
          refine bodyPost_ret (tk_ret rfl rfl (set_fourT HZ2.out)) rfl ?_
          exact ⟨by rw [HN.out]; rfl, four_belowT HB2.out (Nat.le_refl _)⟩
        | some v =>
          have HN := Lib.hid (show V = .tuple #[.agg #[.int .i64 3, .string ⟨#[]⟩, .int .i64 v, .int .i64 0], .int .i64 ((s.size : Nat) : Int)] by
            rw [← HV.out, nu_i HK.out H76.out HNZ.out, hp]; rfl)
          have KI := Lib.hid (fun W hw => pi_ok32 s (by omega) v (by rw [HL.out]; rw [HW.out] at hp; exact hp) W hw)
          clear hp
          go_wp2_with (first | (go_at_call 38; refine (ldig_any _ _).mono ?_; rintro e w' ⟨rfl, rfl⟩) | (go_at_call 67; (with_reducible refine (KI.out _ (HLD.out.up HB.out)).mono ?_); rintro e w2 ⟨rfl, hb⟩; have HZ2 := Lib.hid ((hb.block _ (lt_heap HZ.out)).trans HZ.out); obtain ⟨⟨z0, z1, z2, z3⟩, fz, yz⟩ := four_cellsT HZ2.out; have HB2 := Lib.hid (below_on HB.out hb); clear hb))
          refine bodyPost_ret (tk_ret rfl rfl (set_fourT HZ2.out)) rfl ?_
          exact ⟨by rw [HN.out]; rfl, four_belowT HB2.out (Nat.le_refl _)⟩

end Go.Proofs.YtfpdnhbbbadegaaGreatDoor
