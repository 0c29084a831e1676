import Derived.Test.YtalejaklggnnpaaGreatDoorCxa
/- Layer 9, the reference: has, class, named. -/
namespace Go.Proofs.YtalejaklggnnpaaGreatDoor.I
open Go.ChangeShapes Go.WideShapes Go.ChangeAt Go.RowKit Go.PlainAid
set_option linter.unusedSimpArgs false
set_option linter.unusedVariables false
set_option maxRecDepth 100000 in
set_option maxHeartbeats 4000000 in
theorem r9has_any {A : Option Addr} {n c : Nat} {L : List Int} (x : Int) (hn : L.length = n) (hN : n ≤ 1000000) (w : World) (hp : Row w w.heap.size A L) :
  Calls Tryz.prog 122 #[.slice A n c, .int .i64 x] w fun e w' => e = .returned (.bool (hasI L x)) ∧ w = w' := by
 have HP := Lib.hid hp
 have HN := Lib.hid hn
 obtain ⟨V, hV⟩ : ∃ V, hasI L x = V := ⟨_, rfl⟩
 have HV := Lib.hid hV
 rw [hV]
 unfold hasI at HV
 clear hp hn hV
 go_enter Tryz.func122, Tryz.ntmps122
 go_wp2
 go_loopw [5] (fun z wr => ∃ k : Nat, k ≤ n ∧ z = .int .i64 k ∧ (L.take k).any (fun y => x == y) = false ∧ w = wr) (fun z _ => n - (intOf z).toNat)
 case atStart => exact ⟨0, Nat.zero_le _, rfl, rfl, rfl⟩
 case round =>
  obtain ⟨k, hk, rfl, hall, rfl⟩ := hrel
  have HALL := Lib.hid hall
  clear hall
  by_cases hlt : k < n
  ·
   obtain ⟨i, hi⟩ := get_someF (l := L) (k := k) (by rw [HN.out]; exact hlt)
   obtain ⟨gt, ot, rfl, hgt, hct⟩ := row_get HP.out hi
   have HAT := Lib.hid (any_take (p := fun y => x == y) hi)
   have HOF := Lib.hid (any_of (p := fun y => x == y) hi)
   have hk0 : (0 : Int) ≤ (k : Int) := by omega
   have hk1 : (k : Int) < (n : Int) := by omega
   clear hi
   cases hc : (i == x) with
   | true =>
    have hc2 : (x == i) = true := by rw [← hc]; exact BEq.comm
    have HC := Lib.hid (show V = true by rw [← HV.out]; exact HOF.out hc2)
    clear hc2
    go_wp2
    go_ret
    exact ⟨by rw [HC.out]; rfl, rfl⟩
   | false =>
    have hc2 : (x == i) = false := by rw [← hc]; exact BEq.comm
    have HC := Lib.hid hc2
    clear hc2
    go_wp2
    exact ⟨⟨k + 1, hlt, by go_num, by rw [HAT.out, HALL.out]; exact HC.out, trivial⟩, by simp [intOf]; omega⟩
  ·
   obtain rfl : n = k := by omega
   go_wp2
   go_ret
   exact ⟨by have h9 := HALL.out; rw [List.take_of_length_le (by rw [HN.out]; exact Nat.le_refl _)] at h9; rw [← HV.out, h9]; rfl, rfl⟩
theorem drop_btx {s : ByteArray} {k : Nat} (h : k < s.size) : ∃ c r, s.data.toList.drop k = c :: r ∧ (c.toNat : Int) = bt s k ∧ s.data.toList.drop (k + 1) = r := by
 have hl : k < s.data.toList.length := by rw [len_data]; exact h
 refine ⟨s.data.toList[k], s.data.toList.drop (k + 1), List.drop_eq_getElem_cons hl, ?_, rfl⟩
 rw [bt_data, List.getD_eq_getElem?_getD, List.getElem?_eq_getElem hl]; rfl
theorem ar_first {s : ByteArray} (h : 0 < s.size) : arB s = (bt s 0 == 91) := by
 obtain ⟨c, r, hd, hc, _⟩ := drop_btx h
 rw [List.drop_zero] at hd
 unfold arB Lib.hasPrefix
 rw [hd, ← hc]
 cases h9 : (c == 91) with
 | true =>
  have := eq_of_beq h9; subst this; simp [List.isPrefixOf]
 | false =>
  have hne : ¬ c = 91 := by simpa using h9
  have : ((c.toNat : Int) == 91) = false := by
   rw [beq_eq_false_iff_ne]
   intro e
   exact hne (UInt8.toNat_inj.mp (by have h7 : (91 : UInt8).toNat = 91 := rfl; omega))
  rw [this]
  simp [List.isPrefixOf]
  intro e; exact hne e.symm
set_option maxRecDepth 100000 in
set_option maxHeartbeats 4000000 in
theorem r9class_any {A : Option Addr} {n cap : Nat} {L : List Cn} (i : Int) (hS : Fits L) (w : World) (hn : L.length = n) (hN : n ≤ 100000) (hp : Pool w w.heap.size A L) :
  Calls Tryz.prog 124 #[.slice A n cap, .int .i64 i] w fun e w' => e = .returned (.bool (clR L i)) ∧ Below w.heap.size w w' := by
 have K := rcn_any (c := cap) i hn hN hp w (Below.refl _ _)
 unfold clR
 obtain ⟨S, hs⟩ : ∃ S, nmS L i 7 = S := ⟨_, rfl⟩
 obtain ⟨E, he⟩ : ∃ E, nmE L i 7 = E := ⟨_, rfl⟩
 rw [hs, he] at K ⊢
 have KK := Lib.hid K
 have hb := get_bt S
 clear hS hn hp K hs he
 by_cases h0 : E = 0
 ·
  subst h0
  by_cases hz : 0 < S.size
  ·
   have HA := Lib.hid (ar_first hz)
   cases h9 : (bt S 0 == 91) with
   | true =>
    have h9' : (bt S 0 != 91) = false := by simpa using h9
    go_enter Tryz.func124, Tryz.ntmps124
    go_wp2_with (go_at_call 160; refine KK.out.mono ?_; rintro e w1 ⟨rfl, hb1⟩)
    go_ret
    exact ⟨by rw [HA.out, h9, decide_eq_true hz]; rfl, hb1⟩
   | false =>
    have h9' : (bt S 0 != 91) = true := by simpa using h9
    go_enter Tryz.func124, Tryz.ntmps124
    go_wp2_with (go_at_call 160; refine KK.out.mono ?_; rintro e w1 ⟨rfl, hb1⟩)
    go_ret
    exact ⟨by rw [HA.out, h9, decide_eq_true hz]; rfl, hb1⟩
  ·
   have HZ := Lib.hid (decide_eq_false hz)
   have hz' : ¬ (0 : Int) < (S.size : Int) := by omega
   go_enter Tryz.func124, Tryz.ntmps124
   go_wp2_with (go_at_call 160; refine KK.out.mono ?_; rintro e w1 ⟨rfl, hb1⟩)
   go_ret
   exact ⟨by rw [HZ.out]; rfl, hb1⟩
 ·
  have h0' : (E == 0) = false := by simpa using h0
  have HZ := Lib.hid (decide_eq_false h0)
  go_enter Tryz.func124, Tryz.ntmps124
  go_wp2_with (go_at_call 160; refine KK.out.mono ?_; rintro e w1 ⟨rfl, hb1⟩)
  go_ret
  exact ⟨by rw [HZ.out]; rfl, hb1⟩
set_option maxRecDepth 100000 in
set_option maxHeartbeats 4000000 in
theorem r9named_any {A : Option Addr} {n cap : Nat} {L : List Cn} (i : Int) (w : World) (hn : L.length = n) (hN : n ≤ 100000) (hp : Pool w w.heap.size A L) :
  Calls Tryz.prog 126 #[.slice A n cap, .int .i64 i] w fun e w' => e = .returned (.bool (nmR L i)) ∧ Below w.heap.size w w' := by
 obtain ⟨k, hk⟩ : ∃ k, atC L i = k := ⟨_, rfl⟩
 have K1 := rat_any (c := cap) i hn hN hp w (Below.refl _ _)
 rw [hk] at K1
 have KM := Lib.hid (fun W (hb : Below w.heap.size w W) => rmr_any (c := cap) i k.t hn hN hp W hb)
 unfold nmR Go.Proofs.YtalejaklggnnpaaGreatDoor.inB
 rw [hk]
 obtain ⟨S, hs⟩ : ∃ S, mrN L i k.t = S := ⟨_, rfl⟩
 obtain ⟨E, he⟩ : ∃ E, mrE L i k.t = E := ⟨_, rfl⟩
 rw [hs, he] at KM ⊢
 have HK1 := Lib.hid K1
 clear K1 hn hp hs he hk
 obtain ⟨V, hV⟩ : ∃ V, (S.toList == [60, 105, 110, 105, 116, 62]) = V := ⟨_, rfl⟩
 have hT : (⟨#[60, 105, 110, 105, 116, 62]⟩ : ByteArray).toList = [60, 105, 110, 105, 116, 62] := by rw [Lib.toList_data]
 rw [hV]
 have HB := Lib.hid (Below.refl w.heap.size w)
 have E0 : (E == 0) = decide (E = 0) := by by_cases h : E = 0 <;> simp [h]
 cases h0 : (E == 0) with
 | false =>
  have HD := Lib.hid (show decide (E = 0) = false by rw [← E0]; exact h0)
  clear E0
  go_enter Tryz.func126, Tryz.ntmps126
  go_wp2_with (first | (go_at_call 121; refine HK1.out.mono ?_; rintro e w1 ⟨rfl, hb1⟩; have HB := Lib.hid (below_al hb1 (.cells #[.int .i64 k.t, .string k.s, .int .i64 k.n, .int .i64 k.a, .int .i64 k.b] 155)); have HX := Lib.hid (World.alloc_heap_new w1 (.cells #[.int .i64 k.t, .string k.s, .int .i64 k.n, .int .i64 k.a, .int .i64 k.b] 155)); obtain ⟨b0, b1, b2, b3, b4, _⟩ := five_cells HX.out) | (go_at_call 162; refine (KM.out _ HB.out).mono ?_; rintro e w2 ⟨rfl, hb2⟩; have HB2 := Lib.hid (below_on HB.out hb2)))
  go_ret
  exact ⟨by rw [HD.out]; rfl, below_al HB2.out _⟩
 | true =>
  have HD := Lib.hid (show decide (E = 0) = true by rw [← E0]; exact h0)
  clear E0
  cases V with
  | false =>
   go_enter Tryz.func126, Tryz.ntmps126
   go_wp2_with (first | (go_at_call 121; refine HK1.out.mono ?_; rintro e w1 ⟨rfl, hb1⟩; have HB := Lib.hid (below_al hb1 (.cells #[.int .i64 k.t, .string k.s, .int .i64 k.n, .int .i64 k.a, .int .i64 k.b] 155)); have HX := Lib.hid (World.alloc_heap_new w1 (.cells #[.int .i64 k.t, .string k.s, .int .i64 k.n, .int .i64 k.a, .int .i64 k.b] 155)); obtain ⟨b0, b1, b2, b3, b4, _⟩ := five_cells HX.out) | (go_at_call 162; refine (KM.out _ HB.out).mono ?_; rintro e w2 ⟨rfl, hb2⟩; have HB2 := Lib.hid (below_on HB.out hb2)))
   go_ret
   exact ⟨by rw [HD.out]; rfl, below_al HB2.out _⟩
  | true =>
   go_enter Tryz.func126, Tryz.ntmps126
   go_wp2_with (first | (go_at_call 121; refine HK1.out.mono ?_; rintro e w1 ⟨rfl, hb1⟩; have HB := Lib.hid (below_al hb1 (.cells #[.int .i64 k.t, .string k.s, .int .i64 k.n, .int .i64 k.a, .int .i64 k.b] 155)); have HX := Lib.hid (World.alloc_heap_new w1 (.cells #[.int .i64 k.t, .string k.s, .int .i64 k.n, .int .i64 k.a, .int .i64 k.b] 155)); obtain ⟨b0, b1, b2, b3, b4, _⟩ := five_cells HX.out) | (go_at_call 162; refine (KM.out _ HB.out).mono ?_; rintro e w2 ⟨rfl, hb2⟩; have HB2 := Lib.hid (below_on HB.out hb2)))
   go_ret
   exact ⟨by rw [HD.out]; rfl, below_al HB2.out _⟩
end Go.Proofs.YtalejaklggnnpaaGreatDoor.I
