/- Layer 53, the reference: number. -/
import Derived.Test.YtfpdnhbbbadegaaGreatDoorTb
import Derived.Test.YtfpdnhbbbadegaaGreatDoorYi
namespace Go.Proofs.YtfpdnhbbbadegaaGreatDoor
open Go.ChangeShapes Go.WideShapes Go.ChangeAt Go.RowKit Go.PlainAid
set_option linter.unusedSimpArgs false
set_option linter.unusedVariables false

def vA (acc : Nat) (l : List UInt8) : Nat := l.foldl (fun a c => a * 10 + (c.toNat - 48)) acc
theorem vA_cons (acc : Nat) (c : UInt8) (r : List UInt8) : vA acc (c :: r) = vA (acc * 10 + (c.toNat - 48)) r := by unfold vA; rw [List.foldl_cons]
theorem vA_ge (l : List UInt8) : ∀ (acc : Nat), acc ≤ vA acc l := by
  induction l with
  | nil => intro acc; exact Nat.le_refl acc
  | cons c r ih =>
    intro acc
    rw [vA_cons]
    have := ih (acc * 10 + (c.toNat - 48))
    generalize vA (acc * 10 + (c.toNat - 48)) r = V at this ⊢
    generalize c.toNat - 48 = d at this
    omega
theorem take_ne {l : List UInt8} (h0 : 0 < dgN l) : l.take (dgN l) ≠ [] := by
  intro e
  have h1 := congrArg List.length e
  rw [List.length_take, List.length_nil] at h1
  have := dgN_le l
  omega
theorem vA_snoc (l : List UInt8) (acc : Nat) (c : UInt8) : vA acc (l ++ [c]) = vA acc l * 10 + (c.toNat - 48) := by
  unfold vA; rw [List.foldl_append, List.foldl_cons, List.foldl_nil]
theorem dg8_bd {c : UInt8} (h : dg8 c = true) : 48 ≤ c.toNat ∧ c.toNat ≤ 57 := by
  unfold dg8 digB at h
  rw [decide_eq_true_eq] at h
  omega
theorem puM_val (M : Nat) (hM : M ≤ 18446744073709551615) : ∀ (l : List UInt8) (acc : Nat), (∀ c ∈ l, dg8 c = true) → acc ≤ M → Lib.parseUintM M acc l = if vA acc l ≤ M then .ok (vA acc l) else .range
  | [], acc, _, ha => by
    show Lib.NumEnd.ok acc = if acc ≤ M then .ok acc else .range
    rw [if_pos ha]
  | c :: r, acc, h, ha => by
    have hc := dg8_bd (h c List.mem_cons_self)
    have hge := vA_ge r (acc * 10 + (c.toNat - 48))
    rw [pu_cons, vA_cons, if_pos hc]
    by_cases h1 : 1844674407370955162 ≤ acc
    · rw [if_pos h1, if_neg (by omega)]
    · rw [if_neg h1]
      by_cases h2 : M < acc * 10 + (c.toNat - 48)
      · rw [if_pos h2, if_neg (by omega)]
      · rw [if_neg h2, puM_val M hM r _ (fun x hx => h x (List.mem_cons_of_mem _ hx)) (by omega)]
theorem okI_val (B : Nat) (hB : B = 32 ∨ B = 64) {l : List UInt8} (h : ∀ c ∈ l, dg8 c = true) (h0 : l ≠ []) : okI (Lib.parseIntB B l) = if vA 0 l < 2 ^ (B - 1) then some (vA 0 l : Int) else none := by
  cases l with
  | nil => exact absurd rfl h0
  | cons c r =>
    have hc := dg8_bd (h c List.mem_cons_self)
    have hp : Lib.parseUintB B (c :: r) = if vA 0 (c :: r) ≤ 2 ^ B - 1 then .ok (vA 0 (c :: r)) else .range := by
      unfold Lib.parseUintB
      rw [if_neg (by simp)]
      exact puM_val _ (by rcases hB with rfl | rfl <;> omega) _ _ h (Nat.zero_le _)
    generalize vA 0 (c :: r) = V at hp ⊢
    unfold Lib.parseIntB
    simp only
    rw [if_neg (by omega), hp]
    by_cases h1 : V ≤ 2 ^ B - 1
    · rw [if_pos h1]
      simp only
      by_cases h2 : V < 2 ^ (B - 1)
      · rw [if_neg (by omega), if_neg (by omega), if_neg (by omega), if_pos h2]; rfl
      · rw [if_pos (by omega), if_neg h2]; rfl
    · rw [if_neg h1, if_neg (by rcases hB with rfl | rfl <;> omega)]; rfl
/-- the number at the beginning, as the reference reads it -/
theorem scNu_long {l : List UInt8} (h0 : 0 < dgN l) (hz : ¬ (1 < dgN l ∧ l.head? = some 48)) (hL : (l.drop (dgN l)).head? = some 76) : scNu l = if vA 0 (l.take (dgN l)) < 9223372036854775808 then some ⟨4, [], vA 0 (l.take (dgN l)), dgN l + 1⟩ else none := by
  unfold scNu
  rw [if_neg hz, if_pos hL, okI_val 64 (Or.inr rfl) (take_dg l) (take_ne h0)]
  split <;> rfl
theorem scNu_int {l : List UInt8} (h0 : 0 < dgN l) (hz : ¬ (1 < dgN l ∧ l.head? = some 48)) (hL : (l.drop (dgN l)).head? ≠ some 76) : scNu l = if vA 0 (l.take (dgN l)) < 2147483648 then some ⟨3, [], vA 0 (l.take (dgN l)), dgN l⟩ else none := by
  unfold scNu
  rw [if_neg hz, if_neg hL, okI_val 32 (Or.inl rfl) (take_dg l) (take_ne h0)]
  split <;> rfl
theorem scNu_zero {l : List UInt8} (hz : 1 < dgN l ∧ l.head? = some 48) : scNu l = none := by unfold scNu; rw [if_pos hz]
set_option maxRecDepth 100000 in
set_option maxHeartbeats 4000000 in
theorem rnum_any (s : ByteArray) (a : Nat) (hs : s.size ≤ 1000000) (ha : a < s.size) (h1 : digB (bt s a) = true) (w : World) :
    Calls Tryz.prog 46 #[.string s, .int .i64 (a : Int)] w fun e w' => (∃ v, e = .returned v ∧ RsV a (scNu (s.data.toList.drop a)) v) ∧ Below w.heap.size w w' := by
  have hlen := len_data s
  have hb := get_bt s
  obtain ⟨l, hl⟩ : ∃ l, s.data.toList.drop a = l := ⟨_, rfl⟩
  have hll : l.length = s.size - a := by rw [← hl, List.length_drop, hlen]
  obtain ⟨c, r, hd, hc, hr⟩ := drop_bt ha
  rw [hl] at hd ⊢
  have hd0 : 0 < dgN l := by rw [hd]; unfold dgN; rw [List.takeWhile_cons, if_pos (by unfold dg8; rw [hc, h1]), List.length_cons]; omega
  have hdl := dgN_le l
  have hdg := take_dg l
  obtain ⟨D, hD⟩ : ∃ D, dgN l = D := ⟨_, rfl⟩
  have HL := Lib.hid hl
  have HLL := Lib.hid hll
  have HD := Lib.hid hD
  have HDG := Lib.hid hdg
  have hD0 : 0 < D := by omega
  have hDs : a + D ≤ s.size := by omega
  have hhd : (l.head? = some 48) ↔ bt s a = 48 := by
    rw [hd, List.head?_cons, Option.some.injEq]
    constructor
    · intro h; rw [← hc, h]; rfl
    · intro h; exact UInt8.toNat_inj.mp (by have : (48 : UInt8).toNat = 48 := rfl; omega)
  have HHD := Lib.hid hhd
  have HZ := Lib.hid (World.alloc_heap_new w (tkO (.int .i64 0) (.string ⟨#[]⟩) (.int .i64 0) (.int .i64 0)))
  have HB := Lib.hid (below_al (Below.refl w.heap.size w) (tkO (.int .i64 0) (.string ⟨#[]⟩) (.int .i64 0) (.int .i64 0)))
  unfold tkO at HZ HB
  have hb0a := bt_nonneg s a
  have hb1a := bt_le s a
  clear hl hll hd hc hr hd0 hdl hdg hD hhd h1
  go_enter Tryz.func46, Tryz.ntmps46
  go_upto_region 1 with fail
  generalize w.alloc (.cells #[.int .i64 0, .string ⟨#[]⟩, .int .i64 0, .int .i64 0] 27) = W1 at HZ HB ⊢
  go_wp2
  go_loopw [7, 8, 9] (fun ee nn oo wr => ∃ (k n : Nat) (ok : Bool), ee = .int .i64 ((a + k : Nat) : Int) ∧ nn = .int .i64 n ∧ oo = .bool ok ∧ k ≤ D ∧ n < 9223372036854775808 ∧ ok = decide (vA 0 (l.take k) < 9223372036854775808) ∧ (ok = true → n = vA 0 (l.take k)) ∧ wr = W1) (fun ee _ _ _ => s.size - (intOf ee).toNat)
  case atStart => exact ⟨0, 0, true, rfl, rfl, rfl, Nat.zero_le _, by decide, by simp [vA], fun _ => by simp [vA], rfl⟩
  case round =>
    obtain ⟨k, n, ok, rfl, rfl, rfl, hk, hn, hok, hnv, rfl⟩ := hrel
    have HOK := Lib.hid hok
    have HNV := Lib.hid hnv
    clear hok hnv
    by_cases hlt : k < D
    · have hkl : k < l.length := by have := dgN_le l; rw [HD.out] at this; omega
      have hks : a + k < s.size := by rw [HLL.out] at hkl; omega
      obtain ⟨c, r, hd, hc, hr⟩ := drop_bt hks
      have hdd : s.data.toList.drop (a + k) = l.drop k := by rw [← HL.out, List.drop_drop]
      rw [hdd] at hd
      have hck : l[k]? = some c := by rw [← List.head?_drop, hd]; rfl
      have hcm : c ∈ l.take D := by
        have : (l.take D)[k]? = some c := by rw [List.getElem?_take, if_pos hlt, hck]
        exact List.mem_of_getElem? this
      have hdc := HDG.out c (by rw [HD.out]; exact hcm)
      have hbd := dg8_bd hdc
      have hg1 : digB (bt s (a + k)) = true := by rw [← hc]; exact hdc
      obtain ⟨d, hdv⟩ : ∃ d, c.toNat - 48 = d := ⟨_, rfl⟩
      have hbv : bt s (a + k) = 48 + (d : Int) := by omega
      have hd9 : d ≤ 9 := by omega
      have hsn : vA 0 (l.take (k + 1)) = vA 0 (l.take k) * 10 + d := by
        rw [List.take_add_one, hck, Option.toList_some, vA_snoc, hdv]
      have HSN := Lib.hid hsn
      obtain ⟨p, hp⟩ : ∃ p, a + k = p := ⟨_, rfl⟩
      rw [hp] at hks hbv hg1 ⊢
      rw [hbv] at hg1
      have hksi : (p : Int) < (s.size : Int) := by omega
      have HP := Lib.hid hp
      clear hkl hd hc hr hdd hck hcm hdc hbd hdv hsn hp
      have hb0 := bt_nonneg s p
      have hb1 := bt_le s p
      cases ok with
      | true =>
        have hV : vA 0 (l.take k) = n := (HNV.out rfl).symm
        by_cases hq : n ≤ (9223372036854775807 - d) / 10
        · have hqi : (n : Int) ≤ (9223372036854775807 - (d : Int)) / 10 := by omega
          have HN9 := Lib.hid (show vA 0 (l.take (k + 1)) = n * 10 + d by rw [HSN.out, hV])
          go_upto_region 4 with (first | (go_at_call 45; refine (rdig_any _ _).mono ?_; rintro e w' ⟨rfl, rfl⟩))
          rw [show (48 + (d : Int) - 48) = (d : Int) by omega]
          go_wp2
          have hpk := HP.out
          refine ⟨⟨k + 1, n * 10 + d, true, ?_, ?_, rfl, hlt, by omega, ?_, fun _ => HN9.out.symm, trivial⟩, ?_⟩
          · rw [show (p : Int) + 1 = ((a + (k + 1) : Nat) : Int) by omega]
          · rw [show (n : Int) * 10 + (d : Int) = ((n * 10 + d : Nat) : Int) by omega]
          · rw [HN9.out]; exact (decide_eq_true (by omega)).symm
          · simp [intOf]; omega
        · have hqi : decide ((n : Int) ≤ (9223372036854775807 - (d : Int)) / 10) = false := decide_eq_false (by omega)
          have HN9 := Lib.hid (show vA 0 (l.take (k + 1)) = n * 10 + d by rw [HSN.out, hV])
          go_upto_region 4 with (first | (go_at_call 45; refine (rdig_any _ _).mono ?_; rintro e w' ⟨rfl, rfl⟩))
          rw [show (48 + (d : Int) - 48) = (d : Int) by omega]
          go_wp2
          have hpk := HP.out
          refine ⟨⟨k + 1, n, false, ?_, rfl, rfl, hlt, hn, ?_, fun h => (by cases h), trivial⟩, ?_⟩
          · rw [show (p : Int) + 1 = ((a + (k + 1) : Nat) : Int) by omega]
          · rw [HN9.out]; exact (decide_eq_false (by omega)).symm
          · simp [intOf]; omega
      | false =>
        have hV : ¬ vA 0 (l.take k) < 9223372036854775808 := of_decide_eq_false HOK.out.symm
        have HV := Lib.hid hV
        clear hV
        go_upto_region 4 with (first | (go_at_call 45; refine (rdig_any _ _).mono ?_; rintro e w' ⟨rfl, rfl⟩))
        rw [show (48 + (d : Int) - 48) = (d : Int) by omega]
        go_wp2
        have hpk := HP.out
        refine ⟨⟨k + 1, n, false, ?_, rfl, rfl, hlt, hn, ?_, fun h => (by cases h), trivial⟩, ?_⟩
        · rw [show (p : Int) + 1 = ((a + (k + 1) : Nat) : Int) by omega]
        · have := HV.out; have := HSN.out; exact (decide_eq_false (by omega)).symm
        · simp [intOf]; omega
    · obtain rfl : k = D := by omega
      have hL76 : (l.drop k).head? = some 76 ↔ (a + k < s.size ∧ bt s (a + k) = 76) := by
        rcases Nat.lt_or_ge (a + k) s.size with h | h
        · obtain ⟨c, r, hd, hc, hr⟩ := drop_bt h
          have hdd : s.data.toList.drop (a + k) = l.drop k := by rw [← HL.out, List.drop_drop]
          rw [hdd] at hd
          rw [hd, List.head?_cons, Option.some.injEq]
          constructor
          · intro e; refine ⟨h, ?_⟩; rw [← hc, e]; rfl
          · intro e; exact UInt8.toNat_inj.mp (by have h7 : (76 : UInt8).toNat = 76 := rfl; have := e.2; omega)
        · rw [List.drop_eq_nil_of_le (by rw [HLL.out]; omega)]
          constructor
          · intro e; cases e
          · intro e; omega
      have hnx : a + k < s.size → digB (bt s (a + k)) = false := by
        intro h
        obtain ⟨c, r, hd, hc, hr⟩ := drop_bt h
        have hdd : s.data.toList.drop (a + k) = l.drop k := by rw [← HL.out, List.drop_drop]
        rw [hdd] at hd
        have hdw : l.dropWhile dg8 = c :: r := by
          have e := List.takeWhile_append_dropWhile (p := dg8) (l := l)
          have h2 : l.drop k = l.dropWhile dg8 := by
            rw [← HD.out]
            unfold dgN
            have h3 : (l.takeWhile dg8 ++ l.dropWhile dg8).drop (l.takeWhile dg8).length = l.dropWhile dg8 := List.drop_left
            rwa [e] at h3
          rw [← h2, hd]
        have := List.head?_dropWhile_not dg8 l
        rw [hdw] at this
        simp at this
        rw [← hc]
        exact this
      obtain ⟨E, hE⟩ : ∃ E, a + k = E := ⟨_, rfl⟩
      rw [hE] at hL76 hnx ⊢
      have HE := Lib.hid hE
      have hEs : E ≤ s.size := by omega
      have HE1 := Lib.hid (show a + k = E from HE.out)
      have hb0 := bt_nonneg s E
      have hb1 := bt_le s E
      have HX := Lib.hid hL76
      have HNX := Lib.hid hnx
      have hvlt := HOK.out
      clear hL76 hnx hE
      -- a zero that is not alone
      have HZR := Lib.hid (show (1 < dgN l ∧ l.head? = some 48) ↔ (k ≠ 1 ∧ bt s a = 48) by
        rw [HD.out, HHD.out]
        constructor
        · intro h; exact ⟨by omega, h.2⟩
        · intro h; exact ⟨by omega, h.2⟩)
      cases ok with
      | false =>
        have hbig : ¬ vA 0 (l.take k) < 9223372036854775808 := of_decide_eq_false hvlt.symm
        clear hvlt
        have hno : scNu l = none := by
          by_cases hz : 1 < dgN l ∧ l.head? = some 48
          · exact scNu_zero hz
          · by_cases h7 : (l.drop (dgN l)).head? = some 76
            · rw [scNu_long (by rw [HD.out]; exact hD0) hz h7, HD.out, if_neg hbig]
            · rw [scNu_int (by rw [HD.out]; exact hD0) hz h7, HD.out, if_neg (by omega)]
        have HNO := Lib.hid hno
        clear hno
        by_cases hEz : E = s.size
        · have HV := Lib.hid (fun (q e : Int) => (RsV.no HNO.out : RsV a (scNu l) (.tuple #[.agg #[.int .i64 q, .string ⟨#[]⟩, .int .i64 n, .int .i64 a], .int .i64 e, .bool false])))
          have hEi : decide ((E : Int) < (s.size : Int)) = false := decide_eq_false (by omega)
          have hEj : decide (E < s.size) = false := decide_eq_false (by omega)
          clear hEz
          obtain ⟨⟨z0, z1, z2, z3⟩, fz, yz⟩ := four_cellsT HZ.out
          go_wp2_with (first | (go_at_call 45; refine (rdig_any _ _).mono ?_; rintro e w' ⟨rfl, rfl⟩))
          refine bodyPost_ret (tk_ret3 rfl rfl (set_fourT HZ.out)) rfl ?_
          exact ⟨⟨_, rfl, HV.out _ _⟩, four_belowT HB.out (Nat.le_refl _)⟩
        · have hEi : (E : Int) < (s.size : Int) := by omega
          have hEn : E < s.size := by omega
          have hng := HNX.out hEn
          have HV := Lib.hid (fun (q e : Int) => (RsV.no HNO.out : RsV a (scNu l) (.tuple #[.agg #[.int .i64 q, .string ⟨#[]⟩, .int .i64 n, .int .i64 a], .int .i64 e, .bool false])))
          clear hEz
          by_cases h76 : bt s E = 76
          · have e76 : (bt s E == 76) = true := by simpa using h76
            clear h76
            obtain ⟨⟨z0, z1, z2, z3⟩, fz, yz⟩ := four_cellsT HZ.out
            go_wp2_with (first | (go_at_call 45; refine (rdig_any _ _).mono ?_; rintro e w' ⟨rfl, rfl⟩))
            refine bodyPost_ret (tk_ret3 rfl rfl (set_fourT HZ.out)) rfl ?_
            exact ⟨⟨_, rfl, HV.out _ _⟩, four_belowT HB.out (Nat.le_refl _)⟩
          · have e76 : (bt s E == 76) = false := by simpa using h76
            clear h76
            obtain ⟨⟨z0, z1, z2, z3⟩, fz, yz⟩ := four_cellsT HZ.out
            go_wp2_with (first | (go_at_call 45; refine (rdig_any _ _).mono ?_; rintro e w' ⟨rfl, rfl⟩))
            refine bodyPost_ret (tk_ret3 rfl rfl (set_fourT HZ.out)) rfl ?_
            exact ⟨⟨_, rfl, HV.out _ _⟩, four_belowT HB.out (Nat.le_refl _)⟩
      | true =>
        have hsm : vA 0 (l.take k) < 9223372036854775808 := of_decide_eq_true hvlt.symm
        have hnv := HNV.out rfl
        rw [← hnv] at hsm
        have HNN := Lib.hid hnv
        clear hnv
        clear hvlt
        by_cases hz : k ≠ 1 ∧ bt s a = 48
        · have e48 : (bt s a != 48) = false := by simpa using hz.2
          have e1 : ((E : Int) == (a : Int) + 1) = false := by rw [beq_eq_false_iff_ne]; have := HE1.out; omega
          have HZN := Lib.hid (HZR.out.2 hz)
          clear hz
          have hno : scNu l = none := scNu_zero HZN.out
          have HNO := Lib.hid hno
          clear hno
          by_cases hEz : E = s.size
          · have HV := Lib.hid (fun (q e : Int) => (RsV.no HNO.out : RsV a (scNu l) (.tuple #[.agg #[.int .i64 q, .string ⟨#[]⟩, .int .i64 n, .int .i64 a], .int .i64 e, .bool false])))
            have hEi : decide ((E : Int) < (s.size : Int)) = false := decide_eq_false (by omega)
            have hEj : decide (E < s.size) = false := decide_eq_false (by omega)
            clear hEz
            obtain ⟨⟨z0, z1, z2, z3⟩, fz, yz⟩ := four_cellsT HZ.out
            go_wp2_with (first | (go_at_call 45; refine (rdig_any _ _).mono ?_; rintro e w' ⟨rfl, rfl⟩))
            refine bodyPost_ret (tk_ret3 rfl rfl (set_fourT HZ.out)) rfl ?_
            exact ⟨⟨_, rfl, HV.out _ _⟩, four_belowT HB.out (Nat.le_refl _)⟩
          · have hEi : (E : Int) < (s.size : Int) := by omega
            have hEn : E < s.size := by omega
            have hng := HNX.out hEn
            have HV := Lib.hid (fun (q e : Int) => (RsV.no HNO.out : RsV a (scNu l) (.tuple #[.agg #[.int .i64 q, .string ⟨#[]⟩, .int .i64 n, .int .i64 a], .int .i64 e, .bool false])))
            clear hEz
            by_cases h76 : bt s E = 76
            · have e76 : (bt s E == 76) = true := by simpa using h76
              clear h76
              obtain ⟨⟨z0, z1, z2, z3⟩, fz, yz⟩ := four_cellsT HZ.out
              go_wp2_with (first | (go_at_call 45; refine (rdig_any _ _).mono ?_; rintro e w' ⟨rfl, rfl⟩))
              refine bodyPost_ret (tk_ret3 rfl rfl (set_fourT HZ.out)) rfl ?_
              exact ⟨⟨_, rfl, HV.out _ _⟩, four_belowT HB.out (Nat.le_refl _)⟩
            · have e76 : (bt s E == 76) = false := by simpa using h76
              clear h76
              obtain ⟨⟨z0, z1, z2, z3⟩, fz, yz⟩ := four_cellsT HZ.out
              go_wp2_with (first | (go_at_call 45; refine (rdig_any _ _).mono ?_; rintro e w' ⟨rfl, rfl⟩))
              refine bodyPost_ret (tk_ret3 rfl rfl (set_fourT HZ.out)) rfl ?_
              exact ⟨⟨_, rfl, HV.out _ _⟩, four_belowT HB.out (Nat.le_refl _)⟩
        · have HZN := Lib.hid (fun h => hz (HZR.out.1 h))
          have HDP := Lib.hid (show 0 < dgN l by rw [HD.out]; exact hD0)
          by_cases hz1 : bt s a = 48
          · have e48 : (bt s a != 48) = false := by simpa using hz1
            have hk1 : k = 1 := Decidable.not_not.1 (fun h => hz ⟨h, hz1⟩)
            have e1 : ((E : Int) == (a : Int) + 1) = true := by rw [beq_iff_eq]; have := HE1.out; omega
            clear hz hz1
            by_cases hEL : E < s.size ∧ bt s E = 76
            · have e76 : (bt s E == 76) = true := by simpa using hEL.2
              have hEi : (E : Int) < (s.size : Int) := by omega
              have hng := HNX.out hEL.1
              have HV := Lib.hid (show RsV a (scNu l) (.tuple #[.agg #[.int .i64 4, .string ⟨#[]⟩, .int .i64 n, .int .i64 a], .int .i64 ((E : Int) + 1), .bool true]) by
                rw [scNu_long HDP.out HZN.out (by rw [HD.out]; exact HX.out.2 hEL), HD.out, if_pos (by rw [← HNN.out]; exact hsm)]
                exact RsV.yes rfl rfl (by rw [HNN.out]) rfl (by have := HE1.out; simp only; omega))
              clear hEL
              obtain ⟨⟨z0, z1, z2, z3⟩, fz, yz⟩ := four_cellsT HZ.out
              go_wp2_with (first | (go_at_call 45; refine (rdig_any _ _).mono ?_; rintro e w' ⟨rfl, rfl⟩))
              refine bodyPost_ret (tk_ret3 rfl rfl (set_fourT HZ.out)) rfl ?_
              exact ⟨⟨_, rfl, HV.out⟩, four_belowT HB.out (Nat.le_refl _)⟩
            · have HIN := Lib.hid (scNu_int HDP.out HZN.out (by rw [HD.out]; exact fun h => hEL (HX.out.1 h)))
              by_cases hm : n ≤ 2147483647
              · have hmi : decide ((n : Int) ≤ 2147483647) = true := decide_eq_true (by omega)
                have hmj : decide (n ≤ 2147483647) = true := decide_eq_true (by omega)
                have HV := Lib.hid (show RsV a (scNu l) (.tuple #[.agg #[.int .i64 3, .string ⟨#[]⟩, .int .i64 n, .int .i64 a], .int .i64 (E : Int), .bool true]) by
                  rw [HIN.out, HD.out, if_pos (by rw [← HNN.out]; omega)]
                  exact RsV.yes rfl rfl (by rw [HNN.out]) rfl (by have := HE1.out; simp only; omega))
                by_cases hEz : E = s.size
                · have hEi : decide ((E : Int) < (s.size : Int)) = false := decide_eq_false (by omega)
                  have hEj : decide (E < s.size) = false := decide_eq_false (by omega)
                  clear hEz hEL hm
                  obtain ⟨⟨z0, z1, z2, z3⟩, fz, yz⟩ := four_cellsT HZ.out
                  go_wp2_with (first | (go_at_call 45; refine (rdig_any _ _).mono ?_; rintro e w' ⟨rfl, rfl⟩))
                  refine bodyPost_ret (tk_ret3 rfl rfl (set_fourT HZ.out)) rfl ?_
                  exact ⟨⟨_, rfl, HV.out⟩, four_belowT HB.out (Nat.le_refl _)⟩
                · have hEi : (E : Int) < (s.size : Int) := by omega
                  have hng := HNX.out (by omega)
                  have e76 : (bt s E == 76) = false := by rw [beq_eq_false_iff_ne]; intro h; exact hEL ⟨by omega, h⟩
                  clear hEz hEL hm
                  obtain ⟨⟨z0, z1, z2, z3⟩, fz, yz⟩ := four_cellsT HZ.out
                  go_wp2_with (first | (go_at_call 45; refine (rdig_any _ _).mono ?_; rintro e w' ⟨rfl, rfl⟩))
                  refine bodyPost_ret (tk_ret3 rfl rfl (set_fourT HZ.out)) rfl ?_
                  exact ⟨⟨_, rfl, HV.out⟩, four_belowT HB.out (Nat.le_refl _)⟩
              · have hmi : decide ((n : Int) ≤ 2147483647) = false := decide_eq_false (by omega)
                have hmj : decide (n ≤ 2147483647) = false := decide_eq_false (by omega)
                have HV := Lib.hid (show RsV a (scNu l) (.tuple #[.agg #[.int .i64 3, .string ⟨#[]⟩, .int .i64 n, .int .i64 a], .int .i64 (E : Int), .bool false]) by
                  rw [HIN.out, HD.out, if_neg (by rw [← HNN.out]; omega)]
                  exact RsV.no rfl)
                by_cases hEz : E = s.size
                · have hEi : decide ((E : Int) < (s.size : Int)) = false := decide_eq_false (by omega)
                  have hEj : decide (E < s.size) = false := decide_eq_false (by omega)
                  clear hEz hEL hm
                  obtain ⟨⟨z0, z1, z2, z3⟩, fz, yz⟩ := four_cellsT HZ.out
                  go_wp2_with (first | (go_at_call 45; refine (rdig_any _ _).mono ?_; rintro e w' ⟨rfl, rfl⟩))
                  refine bodyPost_ret (tk_ret3 rfl rfl (set_fourT HZ.out)) rfl ?_
                  exact ⟨⟨_, rfl, HV.out⟩, four_belowT HB.out (Nat.le_refl _)⟩
                · have hEi : (E : Int) < (s.size : Int) := by omega
                  have hng := HNX.out (by omega)
                  have e76 : (bt s E == 76) = false := by rw [beq_eq_false_iff_ne]; intro h; exact hEL ⟨by omega, h⟩
                  clear hEz hEL hm
                  obtain ⟨⟨z0, z1, z2, z3⟩, fz, yz⟩ := four_cellsT HZ.out
                  go_wp2_with (first | (go_at_call 45; refine (rdig_any _ _).mono ?_; rintro e w' ⟨rfl, rfl⟩))
                  refine bodyPost_ret (tk_ret3 rfl rfl (set_fourT HZ.out)) rfl ?_
                  exact ⟨⟨_, rfl, HV.out⟩, four_belowT HB.out (Nat.le_refl _)⟩
          · have e48 : (bt s a != 48) = true := by simpa using hz1
            clear hz hz1
            by_cases hEL : E < s.size ∧ bt s E = 76
            · have e76 : (bt s E == 76) = true := by simpa using hEL.2
              have hEi : (E : Int) < (s.size : Int) := by omega
              have hng := HNX.out hEL.1
              have HV := Lib.hid (show RsV a (scNu l) (.tuple #[.agg #[.int .i64 4, .string ⟨#[]⟩, .int .i64 n, .int .i64 a], .int .i64 ((E : Int) + 1), .bool true]) by
                rw [scNu_long HDP.out HZN.out (by rw [HD.out]; exact HX.out.2 hEL), HD.out, if_pos (by rw [← HNN.out]; exact hsm)]
                exact RsV.yes rfl rfl (by rw [HNN.out]) rfl (by have := HE1.out; simp only; omega))
              clear hEL
              obtain ⟨⟨z0, z1, z2, z3⟩, fz, yz⟩ := four_cellsT HZ.out
              go_wp2_with (first | (go_at_call 45; refine (rdig_any _ _).mono ?_; rintro e w' ⟨rfl, rfl⟩))
              refine bodyPost_ret (tk_ret3 rfl rfl (set_fourT HZ.out)) rfl ?_
              exact ⟨⟨_, rfl, HV.out⟩, four_belowT HB.out (Nat.le_refl _)⟩
            · have HIN := Lib.hid (scNu_int HDP.out HZN.out (by rw [HD.out]; exact fun h => hEL (HX.out.1 h)))
              by_cases hm : n ≤ 2147483647
              · have hmi : decide ((n : Int) ≤ 2147483647) = true := decide_eq_true (by omega)
                have hmj : decide (n ≤ 2147483647) = true := decide_eq_true (by omega)
                have HV := Lib.hid (show RsV a (scNu l) (.tuple #[.agg #[.int .i64 3, .string ⟨#[]⟩, .int .i64 n, .int .i64 a], .int .i64 (E : Int), .bool true]) by
                  rw [HIN.out, HD.out, if_pos (by rw [← HNN.out]; omega)]
                  exact RsV.yes rfl rfl (by rw [HNN.out]) rfl (by have := HE1.out; simp only; omega))
                by_cases hEz : E = s.size
                · have hEi : decide ((E : Int) < (s.size : Int)) = false := decide_eq_false (by omega)
                  have hEj : decide (E < s.size) = false := decide_eq_false (by omega)
                  clear hEz hEL hm
                  obtain ⟨⟨z0, z1, z2, z3⟩, fz, yz⟩ := four_cellsT HZ.out
                  go_wp2_with (first | (go_at_call 45; refine (rdig_any _ _).mono ?_; rintro e w' ⟨rfl, rfl⟩))
                  refine bodyPost_ret (tk_ret3 rfl rfl (set_fourT HZ.out)) rfl ?_
                  exact ⟨⟨_, rfl, HV.out⟩, four_belowT HB.out (Nat.le_refl _)⟩
                · have hEi : (E : Int) < (s.size : Int) := by omega
                  have hng := HNX.out (by omega)
                  have e76 : (bt s E == 76) = false := by rw [beq_eq_false_iff_ne]; intro h; exact hEL ⟨by omega, h⟩
                  clear hEz hEL hm
                  obtain ⟨⟨z0, z1, z2, z3⟩, fz, yz⟩ := four_cellsT HZ.out
                  go_wp2_with (first | (go_at_call 45; refine (rdig_any _ _).mono ?_; rintro e w' ⟨rfl, rfl⟩))
                  refine bodyPost_ret (tk_ret3 rfl rfl (set_fourT HZ.out)) rfl ?_
                  exact ⟨⟨_, rfl, HV.out⟩, four_belowT HB.out (Nat.le_refl _)⟩
              · have hmi : decide ((n : Int) ≤ 2147483647) = false := decide_eq_false (by omega)
                have hmj : decide (n ≤ 2147483647) = false := decide_eq_false (by omega)
                have HV := Lib.hid (show RsV a (scNu l) (.tuple #[.agg #[.int .i64 3, .string ⟨#[]⟩, .int .i64 n, .int .i64 a], .int .i64 (E : Int), .bool false]) by
                  rw [HIN.out, HD.out, if_neg (by rw [← HNN.out]; omega)]
                  exact RsV.no rfl)
                by_cases hEz : E = s.size
                · have hEi : decide ((E : Int) < (s.size : Int)) = false := decide_eq_false (by omega)
                  have hEj : decide (E < s.size) = false := decide_eq_false (by omega)
                  clear hEz hEL hm
                  obtain ⟨⟨z0, z1, z2, z3⟩, fz, yz⟩ := four_cellsT HZ.out
                  go_wp2_with (first | (go_at_call 45; refine (rdig_any _ _).mono ?_; rintro e w' ⟨rfl, rfl⟩))
                  refine bodyPost_ret (tk_ret3 rfl rfl (set_fourT HZ.out)) rfl ?_
                  exact ⟨⟨_, rfl, HV.out⟩, four_belowT HB.out (Nat.le_refl _)⟩
                · have hEi : (E : Int) < (s.size : Int) := by omega
                  have hng := HNX.out (by omega)
                  have e76 : (bt s E == 76) = false := by rw [beq_eq_false_iff_ne]; intro h; exact hEL ⟨by omega, h⟩
                  clear hEz hEL hm
                  obtain ⟨⟨z0, z1, z2, z3⟩, fz, yz⟩ := four_cellsT HZ.out
                  go_wp2_with (first | (go_at_call 45; refine (rdig_any _ _).mono ?_; rintro e w' ⟨rfl, rfl⟩))
                  refine bodyPost_ret (tk_ret3 rfl rfl (set_fourT HZ.out)) rfl ?_
                  exact ⟨⟨_, rfl, HV.out⟩, four_belowT HB.out (Nat.le_refl _)⟩

end Go.Proofs.YtfpdnhbbbadegaaGreatDoor
