import Derived.Test.YthfegbhbokhlkaaGreatDoorGhM
import Derived.Test.YthfegbhbokhlkaaGreatDoorOctM
import Derived.Test.YthfegbhbokhlkaaGreatDoorReg

/- Qg -/
/- Layer 11: the reference's writer: two, numbers, attrs, many. -/
namespace Go.Proofs.YthfegbhbokhlkaaGreatDoor
open Go.ChangeShapes Go.WideShapes Go.ChangeAt Go.RowKit Go.PlainAid
set_option linter.unusedSimpArgs false
set_option linter.unusedVariables false

theorem rtwo_ok (n : Int) (h : wdB n = false) (w : World) : Calls Tryz.prog 25 #[.int .i64 n] w fun e w' => e = .returned (.tuple #[.string (putB n 2), .bool true]) ∧ Below w.heap.size w w' := by
  obtain ⟨h0, h1⟩ := wd_in h
  have hx : ¬ n < 0 := by omega
  have hy : ¬ 65535 < n := by omega
  clear h
  go_enter Tryz.func25, Tryz.ntmps25
  go_wp2_with (go_at_call 50; refine (rput_any n 2 _).mono ?_; rintro e w1 ⟨rfl, hb1⟩)
  go_ret2
  exact ⟨rfl, hb1⟩
theorem rtwo_no (n : Int) (h : wdB n = true) (w : World) : Calls Tryz.prog 25 #[.int .i64 n] w fun e w' => e = .returned (.tuple #[.string ⟨#[]⟩, .bool false]) ∧ w = w' := by
  have hx : n < 0 ∨ (¬ n < 0 ∧ 65535 < n) := by unfold wdB at h; rw [decide_eq_true_eq] at h; omega
  clear h
  rcases hx with hx | ⟨hx, hy⟩
  · go_enter Tryz.func25, Tryz.ntmps25
    go_wp2
    go_ret2
    exact ⟨rfl, rfl⟩
  · go_enter Tryz.func25, Tryz.ntmps25
    go_wp2
    go_ret2
    exact ⟨rfl, rfl⟩
theorem p2_size (L : List Int) (hl : L.length ≤ 100) (k : Nat) : (catB p2B (L.take k)).size ≤ 800 := by
  have h1 := catB_size (f := p2B) (L := L.take k) (z := 8) (fun a _ => putB_size a 2)
  have h2 : (L.take k).length ≤ 100 := by rw [List.length_take]; omega
  omega
/-- what the reference's writer hands back of a list: a text, and whether all fits -/
def TxRet (w : World) (b : Bool) (x : ByteArray) (e : Ending) (w' : World) : Prop := (∃ y, e = .returned (.tuple #[.string y, .bool (!b)]) ∧ (b = false → y = x)) ∧ Below w.heap.size w w'
theorem TxRet.no {w w' : World} {b : Bool} {x : ByteArray} (h : b = true) (hb : Below w.heap.size w w') : TxRet w b x (.returned (.tuple #[.string ⟨#[]⟩, .bool false])) w' := ⟨⟨⟨#[]⟩, by rw [h]; rfl, fun h0 => absurd (h.symm.trans h0) (by decide)⟩, hb⟩
theorem TxRet.yes {w w' : World} {b : Bool} {x y : ByteArray} (h : b = false) (hy : y = x) (hb : Below w.heap.size w w') : TxRet w b x (.returned (.tuple #[.string y, .bool true])) w' := ⟨⟨y, by rw [h]; rfl, fun _ => hy⟩, hb⟩

set_option maxRecDepth 100000 in
set_option maxHeartbeats 1000000 in
theorem rnumbersW_any {w0 : World} {A : Option Addr} {n c : Nat} {L : List Int} (hrow : RowAt iF 1 w0 A L) (hl : L.length = n) (hn : n ≤ 100) (w : World) (hb0 : Below w0.heap.size w0 w) :
    Calls Tryz.prog 24 #[.slice A n c] w (TxRet w (wdL L) (catB p2B L)) := by
  have HR := Lib.hid (hrow.up hb0)
  have HL := Lib.hid hl
  clear hrow hl hb0
  go_enter Tryz.func24, Tryz.ntmps24
  go_wp2
  go_loopw [4, 5] (fun o i wr => ∃ k : Nat, k ≤ n ∧ i = .int .i64 k ∧ o = .string (catB p2B (L.take k)) ∧ (L.take k).any wdB = false ∧ Below w.heap.size w wr) (fun _ i _ => n - (intOf i).toNat)
  case atStart => exact ⟨0, Nat.zero_le _, rfl, rfl, rfl, Below.refl _ _⟩
  case round =>
    obtain ⟨k, hk, rfl, rfl, hno, hBr⟩ := hrel
    have HNO := Lib.hid hno
    have HB := Lib.hid hBr
    have hts := p2_size L (by rw [HL.out]; exact hn) k
    clear hno hBr
    by_cases hlt : k < n
    · obtain ⟨x, hx⟩ : ∃ x, L[k]? = some x := ⟨L[k]'(by rw [HL.out]; exact hlt), List.getElem?_eq_getElem _⟩
      obtain ⟨g, o, rfl, hg, hcell⟩ := (HR.out.up HB.out).get hx
      have a0 : wr.cell? ⟨g, o + k * 1, none⟩ = some (.int .i64 x) := hcell 0 _ rfl
      rw [Nat.mul_one] at a0
      have HX := Lib.hid hx
      have hk0 : (0 : Int) ≤ (k : Int) := by omega
      have hk1 : (k : Int) < (n : Int) := by omega
      have hps := putB_size x 2
      have HT := Lib.hid (show catB p2B (L.take (k + 1)) = catB p2B (L.take k) ++ putB x 2 from catB_take hx)
      obtain ⟨T, hT⟩ : ∃ T, catB p2B (L.take k) = T := ⟨_, rfl⟩
      obtain ⟨X, hX⟩ : ∃ X, putB x 2 = X := ⟨_, rfl⟩
      rw [hT, hX] at HT
      rw [hT] at hts
      rw [hX] at hps
      rw [hT]
      clear hcell hx hT
      cases hw : wdB x with
      | true =>
        have HW := Lib.hid hw
        clear hw
        go_wp2_with (go_at_call 25; refine (rtwo_no x HW.out _).mono ?_; rintro e w1 ⟨rfl, rfl⟩)
        go_ret2
        exact TxRet.no (any_stop HX.out HW.out) HB.out
      | false =>
        have HW := Lib.hid hw
        have K := Lib.hid (fun W => rtwo_ok x hw W)
        rw [hX] at K
        clear hw hX
        go_wp2_with (go_at_call 25; refine (K.out _).mono ?_; rintro e w1 ⟨rfl, hb1⟩)
        go_roundw
        case rel => exact ⟨k + 1, by omega, by go_num, by rw [HT.out], any_next HX.out HNO.out HW.out, below_on HB.out hb1⟩
        case measure => simp [intOf]; omega
    · obtain rfl : k = n := by omega
      have HT := Lib.hid (show catB p2B (L.take k) = catB p2B L by rw [List.take_of_length_le (by rw [HL.out]; exact Nat.le_refl _)])
      go_wp2
      go_ret2
      exact TxRet.yes (any_all HNO.out HL.out) HT.out HB.out

theorem askT {L : List Atr} {k : Nat} (h : (L.take k).any waB = false) : ∀ a ∈ L.take k, a.s.size ≤ 65535 := fun a ha => by
  have h1 := any_in h a ha
  unfold waB at h1
  rw [Bool.or_eq_false_iff] at h1
  have := wd_in h1.2
  omega
theorem asT_sz {L : List Atr} (hl : L.length ≤ 100) {k : Nat} (h : (L.take k).any waB = false) : (catB aB (L.take k)).size ≤ 6555100 := by
  have h1 := catB_size (f := aB) (L := L.take k) (z := 65551) (fun a ha => aB_size (askT h a ha))
  have h2 : (L.take k).length ≤ 100 := by rw [List.length_take]; omega
  omega
theorem cells2A {w : World} {g o k : Nat} {p : Atr} (h : ∀ (j : Nat) (v : Value), (aF p)[j]? = some v → w.cell? ⟨g, o + k * 2 + j, none⟩ = some v) : w.cell? ⟨g, o + k * 2, none⟩ = some (.int .i64 p.n) ∧ w.cell? ⟨g, o + k * 2 + 1, none⟩ = some (.string p.s) := ⟨h 0 _ rfl, h 1 _ rfl⟩
set_option maxRecDepth 100000 in
set_option maxHeartbeats 2000000 in
theorem rattrsW_any {w0 : World} {A : Option Addr} {n c : Nat} {L : List Atr} (hrow : RowAt aF 2 w0 A L) (hl : L.length = n) (hn : n ≤ 100) (w : World) (hb0 : Below w0.heap.size w0 w) :
    Calls Tryz.prog 27 #[.slice A n c] w (TxRet w (waL L) (asB L)) := by
  have HR := Lib.hid (hrow.up hb0)
  have HL := Lib.hid hl
  have HQ := Lib.hid (show asB L = putB n 2 ++ catB aB L by unfold asB; rw [hl])
  have hp2 := putB_size n 2
  have K2 := Lib.hid (fun W => rtwo_ok n (wd_no (by omega) (by omega)) W)
  obtain ⟨X2, hX2⟩ : ∃ X, putB n 2 = X := ⟨_, rfl⟩
  rw [hX2] at HQ hp2 K2
  clear hrow hl hb0 hX2
  go_enter Tryz.func27, Tryz.ntmps27
  go_wp2_with (go_at_call 25; refine (K2.out _).mono ?_; rintro e w1 ⟨rfl, hb1⟩)
  go_loopw [4, 6] (fun o i wr => ∃ k : Nat, k ≤ n ∧ i = .int .i64 k ∧ o = .string (X2 ++ catB aB (L.take k)) ∧ (L.take k).any waB = false ∧ Below w.heap.size w wr) (fun _ i _ => n - (intOf i).toNat)
  case atStart => exact ⟨0, Nat.zero_le _, rfl, by rw [List.take_zero]; show Value.string X2 = .string (X2 ++ ⟨#[]⟩); rw [show X2 ++ ⟨#[]⟩ = X2 from ByteArray.append_empty], rfl, hb1⟩
  case round =>
    obtain ⟨k, hk, rfl, rfl, hno, hBr⟩ := hrel
    have HNO := Lib.hid hno
    have HB := Lib.hid hBr
    have hts := asT_sz (by rw [HL.out]; exact hn) hno
    have hts2 : (X2 ++ catB aB (L.take k)).size ≤ 6555108 := by rw [ByteArray.size_append]; omega
    clear hno hBr
    by_cases hlt : k < n
    · obtain ⟨x, hx⟩ : ∃ x, L[k]? = some x := ⟨L[k]'(by rw [HL.out]; exact hlt), List.getElem?_eq_getElem _⟩
      obtain ⟨g, o, rfl, hg, hcell⟩ := (HR.out.up HB.out).get hx
      obtain ⟨a0, a1⟩ := cells2A hcell
      have HX := Lib.hid hx
      have hk0 : (0 : Int) ≤ (k : Int) := by omega
      have hk1 : (k : Int) < (n : Int) := by omega
      have hps := putB_size x.n 2
      have hpt := putB_size x.s.size 4
      have HT := Lib.hid (show X2 ++ catB aB (L.take (k + 1)) = X2 ++ catB aB (L.take k) ++ putB x.n 2 ++ putB x.s.size 4 ++ x.s by rw [catB_take hx, ← ByteArray.append_assoc]; unfold aB; rw [← ByteArray.append_assoc, ← ByteArray.append_assoc])
      obtain ⟨T, hT⟩ : ∃ T, X2 ++ catB aB (L.take k) = T := ⟨_, rfl⟩
      obtain ⟨X, hX⟩ : ∃ X, putB x.n 2 = X := ⟨_, rfl⟩
      obtain ⟨Y, hY⟩ : ∃ Y, putB x.s.size 4 = Y := ⟨_, rfl⟩
      rw [hT, hX, hY] at HT
      rw [hT] at hts2
      rw [hX] at hps
      rw [hY] at hpt
      rw [hT]
      clear hcell hx hT hts
      cases hw : wdB x.n with
      | true =>
        have HW := Lib.hid hw
        clear hw
        go_wp2_with (go_at_call 25; refine (rtwo_no x.n HW.out _).mono ?_; rintro e w1 ⟨rfl, rfl⟩)
        go_ret2
        exact TxRet.no (any_stop HX.out (by unfold waB; rw [HW.out]; rfl)) HB.out
      | false =>
        have HW := Lib.hid hw
        have K := Lib.hid (fun W => rtwo_ok x.n hw W)
        have K4 := Lib.hid (fun W => rput_any x.s.size 4 W)
        rw [hX] at K
        rw [hY] at K4
        clear hw hX hY
        by_cases hz : 65535 < x.s.size
        · have hz' : (65535 : Int) < (x.s.size : Int) := by omega
          go_wp2_with (go_at_call 25; refine (K.out _).mono ?_; rintro e w1 ⟨rfl, hb1⟩; obtain ⟨hc1, hf1⟩ := bcell hb1)
          go_ret2
          exact TxRet.no (any_stop HX.out (by unfold waB; rw [wd_yes (n := x.s.size) (Or.inr (by omega))]; simp)) (below_on HB.out hb1)
        · have hz' : ¬ (65535 : Int) < (x.s.size : Int) := by omega
          have hzz : x.s.size ≤ 65535 := by omega
          go_wp2_with (first | (go_at_call 25; refine (K.out _).mono ?_; rintro e w1 ⟨rfl, hb1⟩; obtain ⟨hc1, hf1⟩ := bcell hb1; have HB1 := Lib.hid hb1; have hg1 := Nat.lt_of_lt_of_le hg hb1.size; clear hb1) | (go_at_call 50; refine (K4.out _).mono ?_; rintro e w2 ⟨rfl, hb2⟩; obtain ⟨hc2, hf2⟩ := bcell hb2; have HB2 := Lib.hid hb2; clear hb2))
          go_roundw
          case rel => exact ⟨k + 1, by omega, by go_num, by rw [HT.out], any_next HX.out HNO.out (by unfold waB; rw [HW.out, wd_no (n := x.s.size) (by omega) (by omega)]; rfl), below_on (below_on HB.out HB1.out) HB2.out⟩
          case measure => simp [intOf]; omega
    · obtain rfl : k = n := by omega
      have HT := Lib.hid (show X2 ++ catB aB (L.take k) = asB L by rw [List.take_of_length_le (by rw [HL.out]; exact Nat.le_refl _), HQ.out])
      go_wp2
      go_ret2
      exact TxRet.yes (any_all HNO.out HL.out) HT.out HB.out

set_option maxRecDepth 100000 in
set_option maxHeartbeats 1000000 in
theorem rmany_any {A : Option Addr} {n c : Nat} {L : List Mb} (w : World) (hrow : RowAt mF 4 w A L) (hl : L.length = n) (hn : n ≤ 100) (hk : ∀ x ∈ L, x.l.length = x.k) (hkk : ∀ x ∈ L, x.k ≤ 9223372036854775807) :
    Calls Tryz.prog 23 #[.slice A n c] w fun e w' => e = .returned (.bool (decide (64 < n) || (L.map Mb.v).any mnB)) ∧ w = w' := by
  have HR := Lib.hid hrow
  have HL := Lib.hid hl
  have HK := Lib.hid hk
  obtain ⟨W, hW⟩ : ∃ W, (decide (64 < n) || (L.map Mb.v).any mnB) = W := ⟨_, rfl⟩
  have HW := Lib.hid hW
  rw [hW]
  clear hrow hl hW hk
  by_cases h64 : 64 < n
  · have h64' : (64 : Int) < (n : Int) := by omega
    go_enter Tryz.func23, Tryz.ntmps23
    go_wp2
    go_ret
    exact ⟨by rw [← HW.out, decide_eq_true h64]; rfl, rfl⟩
  · have h64' : ¬ (64 : Int) < (n : Int) := by omega
    have HS := Lib.hid (show W = (L.map Mb.v).any mnB by rw [← HW.out, decide_eq_false h64]; rfl)
    go_enter Tryz.func23, Tryz.ntmps23
    go_wp2
    go_loop [3] (fun i => ∃ k : Nat, k ≤ n ∧ i = .int .i64 k ∧ ((L.map Mb.v).take k).any mnB = false) (fun i => n - (intOf i).toNat)
    case atStart => exact ⟨0, Nat.zero_le _, rfl, rfl⟩
    case round =>
      obtain ⟨k, hkn, rfl, hno⟩ := hrel
      have HNO := Lib.hid hno
      clear hno
      by_cases hlt : k < n
      · obtain ⟨x, hx⟩ : ∃ x, L[k]? = some x := ⟨L[k]'(by rw [HL.out]; exact hlt), List.getElem?_eq_getElem _⟩
        obtain ⟨g, o, rfl, hg, hcell⟩ := HR.out.get hx
        have a3 : w.cell? ⟨g, o + k * 4 + 3, none⟩ = some (.slice x.A x.k x.c) := hcell 3 _ rfl
        have hmem := List.mem_of_getElem? hx
        have hxl := HK.out x hmem
        have hxk := hkk x hmem
        have HX := Lib.hid (show (L.map Mb.v)[k]? = some x.v by rw [List.getElem?_map, hx]; rfl)
        have hk0 : (0 : Int) ≤ (k : Int) := by omega
        have hk1 : (k : Int) < (n : Int) := by omega
        clear hcell hx hmem
        by_cases h16 : 16 < x.k
        · have h16' : (16 : Int) < (x.k : Int) := by omega
          have HM := Lib.hid (show mnB x.v = true by unfold mnB; rw [decide_eq_true_eq]; show 16 < x.l.length; omega)
          clear hxl
          go_wp2
          go_ret
          exact ⟨by rw [HS.out, any_stop HX.out HM.out]; rfl, rfl⟩
        · have h16' : ¬ (16 : Int) < (x.k : Int) := by omega
          have HM := Lib.hid (show mnB x.v = false by unfold mnB; rw [decide_eq_false_iff_not]; show ¬ 16 < x.l.length; omega)
          clear hxl
          go_wp2
          go_round
          case rel => exact ⟨k + 1, by omega, by go_num, any_next HX.out HNO.out HM.out⟩
          case measure => simp [intOf]; omega
      · obtain rfl : k = n := by omega
        go_wp2
        go_ret
        exact ⟨by rw [HS.out, any_all HNO.out (by rw [List.length_map]; exact HL.out)]; rfl, rfl⟩

end Go.Proofs.YthfegbhbokhlkaaGreatDoor

/- Qh -/
/- Layer 11: the reference's writer: members. (gen/qi.py) -/
namespace Go.Proofs.YthfegbhbokhlkaaGreatDoor
open Go.ChangeShapes Go.WideShapes Go.ChangeAt Go.RowKit Go.PlainAid
set_option linter.unusedSimpArgs false
set_option linter.unusedVariables false

theorem asB_sz {L : List Atr} (hl : L.length ≤ 100) (h : waL L = false) : (asB L).size ≤ 6555108 := by
  have h1 := asT_sz (k := L.length) hl (by rw [List.take_length]; exact h)
  rw [List.take_length] at h1
  have h2 := putB_size L.length 2
  unfold asB
  rw [ByteArray.size_append]; omega
theorem mvB_num (m : Mv) : mvB m = catB p2B [m.f, m.n, m.d] ++ asB m.l := by
  show putB m.f 2 ++ putB m.n 2 ++ putB m.d 2 ++ asB m.l = (putB m.f 2 ++ (putB m.n 2 ++ (putB m.d 2 ++ ⟨#[]⟩))) ++ asB m.l
  rw [show putB m.d 2 ++ ⟨#[]⟩ = putB m.d 2 from ByteArray.append_empty, ← ByteArray.append_assoc]
theorem mvB_sz {m : Mv} (hl : m.l.length ≤ 100) (h : mlB m = false) : (mvB m).size ≤ 6555140 := by
  unfold mlB at h
  rw [Bool.or_eq_false_iff] at h
  have h1 := putB_size m.f 2
  have h2 := putB_size m.n 2
  have h3 := putB_size m.d 2
  have h4 := asB_sz hl h.2
  unfold mvB
  simp only [ByteArray.size_append]
  omega
theorem msT_sz {L : List Mv} (hl : L.length ≤ 100) (ha : ∀ x ∈ L, x.l.length ≤ 100) {k : Nat} (h : (L.take k).any mlB = false) : (catB mvB (L.take k)).size ≤ 655514000 := by
  have h1 := catB_size (f := mvB) (L := L.take k) (z := 6555140) (fun a hm => mvB_sz (ha a (List.mem_of_mem_take hm)) (any_in h a hm))
  have h2 : (L.take k).length ≤ 100 := by rw [List.length_take]; omega
  omega
theorem msB_sz {L : List Mv} (hl : L.length ≤ 100) (ha : ∀ x ∈ L, x.l.length ≤ 100) (h : L.any mlB = false) : (msB L).size ≤ 655514008 := by
  have h1 := msT_sz (k := L.length) hl ha (by rw [List.take_length]; exact h)
  rw [List.take_length] at h1
  have h2 := putB_size L.length 2
  unfold msB
  rw [ByteArray.size_append]; omega
theorem cells4M {w : World} {g o k : Nat} {p : Mb} (h : ∀ (j : Nat) (v : Value), (mF p)[j]? = some v → w.cell? ⟨g, o + k * 4 + j, none⟩ = some v) : w.cell? ⟨g, o + k * 4, none⟩ = some (.int .i64 p.f) ∧ w.cell? ⟨g, o + k * 4 + 1, none⟩ = some (.int .i64 p.n) ∧ w.cell? ⟨g, o + k * 4 + 2, none⟩ = some (.int .i64 p.d) ∧ w.cell? ⟨g, o + k * 4 + 3, none⟩ = some (.slice p.A p.k p.c) := ⟨h 0 _ rfl, h 1 _ rfl, h 2 _ rfl, h 3 _ rfl⟩

set_option maxRecDepth 100000 in
set_option maxHeartbeats 4000000 in
theorem rmembersW_any {w0 : World} {A : Option Addr} {n c : Nat} {L : List Mb} (hrow : RowAt mF 4 w0 A L) (hl : L.length = n) (hn : n ≤ 100) (hmb : ∀ x ∈ L, x.ok w0) (hmk : ∀ x ∈ L, x.k ≤ 100) (w : World) (hb0 : Below w0.heap.size w0 w) :
    Calls Tryz.prog 26 #[.slice A n c] w (TxRet w ((L.map Mb.v).any mlB) (msB (L.map Mb.v))) := by
  have HR := Lib.hid (hrow.up hb0)
  have HL := Lib.hid hl
  have HMB := Lib.hid (fun x hx => (hmb x hx).up hb0)
  have HMK := Lib.hid (show ∀ x ∈ L.map Mb.v, x.l.length ≤ 100 from fun x hx => by
    obtain ⟨y, hy, rfl⟩ := List.mem_map.1 hx
    have h1 := (hmb y hy).len
    have h2 := hmk y hy
    show y.l.length ≤ 100
    omega)
  have HKK := Lib.hid hmk
  have HQ := Lib.hid (show msB (L.map Mb.v) = putB n 2 ++ catB mvB (L.map Mb.v) by unfold msB; rw [List.length_map, hl])
  have hp2 := putB_size n 2
  have K2 := Lib.hid (fun W => rtwo_ok n (wd_no (by omega) (by omega)) W)
  obtain ⟨X2, hX2⟩ : ∃ X, putB n 2 = X := ⟨_, rfl⟩
  rw [hX2] at HQ hp2 K2
  clear hrow hl hb0 hX2 hmb hmk
  go_enter Tryz.func26, Tryz.ntmps26
  go_wp2_with (go_at_call 25; refine (K2.out _).mono ?_; rintro e w1 ⟨rfl, hb1⟩)
  go_loopw [4, 6] (fun o i wr => ∃ k : Nat, k ≤ n ∧ i = .int .i64 k ∧ o = .string (X2 ++ catB mvB ((L.map Mb.v).take k)) ∧ ((L.map Mb.v).take k).any mlB = false ∧ Below w.heap.size w wr) (fun _ i _ => n - (intOf i).toNat)
  case atStart => exact ⟨0, Nat.zero_le _, rfl, by rw [List.take_zero]; show Value.string X2 = .string (X2 ++ ⟨#[]⟩); rw [show X2 ++ ⟨#[]⟩ = X2 from ByteArray.append_empty], rfl, hb1⟩
  case round =>
    obtain ⟨k, hk, rfl, rfl, hno, hBr⟩ := hrel
    have HNO := Lib.hid hno
    have HB := Lib.hid hBr
    have hts : (X2 ++ catB mvB ((L.map Mb.v).take k)).size ≤ 655514008 := by
      have := msT_sz (by rw [List.length_map, HL.out]; exact hn) HMK.out hno
      rw [ByteArray.size_append]; omega
    clear hno hBr
    by_cases hlt : k < n
    · obtain ⟨x, hx⟩ : ∃ x, L[k]? = some x := ⟨L[k]'(by rw [HL.out]; exact hlt), List.getElem?_eq_getElem _⟩
      obtain ⟨g, o, rfl, hg, hcell⟩ := (HR.out.up HB.out).get hx
      obtain ⟨a0, a1, a2, a3⟩ := cells4M hcell
      have hmem := List.mem_of_getElem? hx
      have hxo := HMB.out x hmem
      have hxl := hxo.len
      have hxk := HKK.out x hmem
      have KA := Lib.hid (fun W (h : Below w.heap.size w W) => rattrsW_any (c := x.c) hxo.row hxl hxk W h)
      have HX := Lib.hid (show (L.map Mb.v)[k]? = some x.v by rw [List.getElem?_map, hx]; rfl)
      have hk0 : (0 : Int) ≤ (k : Int) := by omega
      have hk1 : (k : Int) < (n : Int) := by omega
      clear hcell hx hmem hxo
      go_upto_region 5 with fail
      refine regN_start (N := 21) (S := (fun W : World => W.cell? ⟨g, o + k * 4, none⟩ = some (.int .i64 x.f) ∧ W.cell? ⟨g, o + k * 4 + 1, none⟩ = some (.int .i64 x.n) ∧ W.cell? ⟨g, o + k * 4 + 2, none⟩ = some (.int .i64 x.d) ∧ W.cell? ⟨g, o + k * 4 + 3, none⟩ = some (.slice x.A x.k x.c))) (by kernel_rfl) ?_
      change wpAnyN _ _ _ _ _ _ _ #[false, false, false, false, false, false, false, false, false, false, false, false, false, false, false, false, false, false, false, false, false, false] _ (World.drew _)
      have hS0 := (show (fun W : World => W.cell? ⟨g, o + k * 4, none⟩ = some (.int .i64 x.f) ∧ W.cell? ⟨g, o + k * 4 + 1, none⟩ = some (.int .i64 x.n) ∧ W.cell? ⟨g, o + k * 4 + 2, none⟩ = some (.int .i64 x.d) ∧ W.cell? ⟨g, o + k * 4 + 3, none⟩ = some (.slice x.A x.k x.c)) wr.drew from ⟨a0, a1, a2, a3⟩)
      refine regN_take (i := 0) (d := (some 24)) (v := ?v5x1) (l2 := #[true, false, false, false, false, false, false, false, false, false, false, false, false, false, false, false, false, false, false, false, false, false]) rfl rfl rfl (by kernel_rfl) (by kernel_rfl) (by kernel_rfl) (by kernel_rfl) (fun _ _ _ h => h) (by rfl) ?hv5x1 hS0 ?h5x1
      case hv5x1 => intro u hSu; clear hSu; go_simp; (try with_reducible rfl)
      (try simp only [Act.put, List.setIfInBounds_toArray, List.set_cons_zero, List.set_cons_succ])
      refine regN_take (i := 1) (d := (some 25)) (v := ?v5x2) (l2 := #[true, true, false, false, false, false, false, false, false, false, false, false, false, false, false, false, false, false, false, false, false, false]) rfl rfl rfl (by kernel_rfl) (by kernel_rfl) (by kernel_rfl) (by kernel_rfl) (fun _ _ _ h => h) (by rfl) ?hv5x2 hS0 ?h5x2
      case hv5x2 => intro u hSu; clear hSu; go_simp; (try with_reducible rfl)
      (try simp only [Act.put, List.setIfInBounds_toArray, List.set_cons_zero, List.set_cons_succ])
      refine regN_take (i := 2) (d := (some 26)) (v := ?v5x3) (l2 := #[true, true, true, false, false, false, false, false, false, false, false, false, false, false, false, false, false, false, false, false, false, false]) rfl rfl rfl (by kernel_rfl) (by kernel_rfl) (by kernel_rfl) (by kernel_rfl) (fun _ _ _ h => h) (by rfl) ?hv5x3 hS0 ?h5x3
      case hv5x3 => intro u hSu; clear hSu; go_simp; (try with_reducible rfl)
      (try simp only [Act.put, List.setIfInBounds_toArray, List.set_cons_zero, List.set_cons_succ])
      refine regN_take (i := 3) (d := (some 27)) (v := ?v5x4) (l2 := #[true, true, true, true, false, false, false, false, false, false, false, false, false, false, false, false, false, false, false, false, false, false]) rfl rfl rfl (by kernel_rfl) (by kernel_rfl) (by kernel_rfl) (by kernel_rfl) (fun _ _ _ h => h) (by rfl) ?hv5x4 hS0 ?h5x4
      case hv5x4 => intro u hSu; clear hSu; go_simp; (try with_reducible rfl)
      (try simp only [Act.put, List.setIfInBounds_toArray, List.set_cons_zero, List.set_cons_succ])
      refine regN_take (i := 4) (d := (some 28)) (v := ?v5x5) (l2 := #[true, true, true, true, true, false, false, false, false, false, false, false, false, false, false, false, false, false, false, false, false, false]) rfl rfl rfl (by kernel_rfl) (by kernel_rfl) (by kernel_rfl) (by kernel_rfl) (fun _ _ _ h => h) (by rfl) ?hv5x5 hS0 ?h5x5
      case hv5x5 => intro u hSu; (try dsimp only at hSu); (try go_split_ands); go_simp; (try with_reducible rfl)
      (try simp only [Act.put, List.setIfInBounds_toArray, List.set_cons_zero, List.set_cons_succ])
      refine regN_take (i := 5) (d := (some 29)) (v := ?v5x6) (l2 := #[true, true, true, true, true, true, false, false, false, false, false, false, false, false, false, false, false, false, false, false, false, false]) rfl rfl rfl (by kernel_rfl) (by kernel_rfl) (by kernel_rfl) (by kernel_rfl) (fun _ _ _ h => h) (by rfl) ?hv5x6 hS0 ?h5x6
      case hv5x6 => intro u hSu; clear hSu; go_simp; (try with_reducible rfl)
      (try simp only [Act.put, List.setIfInBounds_toArray, List.set_cons_zero, List.set_cons_succ])
      refine regN_take (i := 6) (d := (some 30)) (v := ?v5x7) (l2 := #[true, true, true, true, true, true, true, false, false, false, false, false, false, false, false, false, false, false, false, false, false, false]) rfl rfl rfl (by kernel_rfl) (by kernel_rfl) (by kernel_rfl) (by kernel_rfl) (fun _ _ _ h => h) (by rfl) ?hv5x7 hS0 ?h5x7
      case hv5x7 => intro u hSu; clear hSu; go_simp; (try with_reducible rfl)
      (try simp only [Act.put, List.setIfInBounds_toArray, List.set_cons_zero, List.set_cons_succ])
      refine regN_take (i := 7) (d := (some 31)) (v := ?v5x8) (l2 := #[true, true, true, true, true, true, true, true, false, false, false, false, false, false, false, false, false, false, false, false, false, false]) rfl rfl rfl (by kernel_rfl) (by kernel_rfl) (by kernel_rfl) (by kernel_rfl) (fun _ _ _ h => h) (by rfl) ?hv5x8 hS0 ?h5x8
      case hv5x8 => intro u hSu; clear hSu; go_simp; (try with_reducible rfl)
      (try simp only [Act.put, List.setIfInBounds_toArray, List.set_cons_zero, List.set_cons_succ])
      refine regN_take (i := 8) (d := (some 32)) (v := ?v5x9) (l2 := #[true, true, true, true, true, true, true, true, true, false, false, false, false, false, false, false, false, false, false, false, false, false]) rfl rfl rfl (by kernel_rfl) (by kernel_rfl) (by kernel_rfl) (by kernel_rfl) (fun _ _ _ h => h) (by rfl) ?hv5x9 hS0 ?h5x9
      case hv5x9 => intro u hSu; clear hSu; go_simp; (try with_reducible rfl)
      (try simp only [Act.put, List.setIfInBounds_toArray, List.set_cons_zero, List.set_cons_succ])
      refine regN_take (i := 9) (d := (some 33)) (v := ?v5x10) (l2 := #[true, true, true, true, true, true, true, true, true, true, false, false, false, false, false, false, false, false, false, false, false, false]) rfl rfl rfl (by kernel_rfl) (by kernel_rfl) (by kernel_rfl) (by kernel_rfl) (fun _ _ _ h => h) (by rfl) ?hv5x10 hS0 ?h5x10
      case hv5x10 => intro u hSu; (try dsimp only at hSu); (try go_split_ands); go_simp; (try with_reducible rfl)
      (try simp only [Act.put, List.setIfInBounds_toArray, List.set_cons_zero, List.set_cons_succ])
      refine regN_take (i := 10) (d := (some 34)) (v := ?v5x11) (l2 := #[true, true, true, true, true, true, true, true, true, true, true, false, false, false, false, false, false, false, false, false, false, false]) rfl rfl rfl (by kernel_rfl) (by kernel_rfl) (by kernel_rfl) (by kernel_rfl) (fun _ _ _ h => h) (by rfl) ?hv5x11 hS0 ?h5x11
      case hv5x11 => intro u hSu; clear hSu; go_simp; (try with_reducible rfl)
      (try simp only [Act.put, List.setIfInBounds_toArray, List.set_cons_zero, List.set_cons_succ])
      refine regN_take (i := 11) (d := (some 35)) (v := ?v5x12) (l2 := #[true, true, true, true, true, true, true, true, true, true, true, true, false, false, false, false, false, false, false, false, false, false]) rfl rfl rfl (by kernel_rfl) (by kernel_rfl) (by kernel_rfl) (by kernel_rfl) (fun _ _ _ h => h) (by rfl) ?hv5x12 hS0 ?h5x12
      case hv5x12 => intro u hSu; clear hSu; go_simp; (try with_reducible rfl)
      (try simp only [Act.put, List.setIfInBounds_toArray, List.set_cons_zero, List.set_cons_succ])
      refine regN_take (i := 12) (d := (some 36)) (v := ?v5x13) (l2 := #[true, true, true, true, true, true, true, true, true, true, true, true, true, false, false, false, false, false, false, false, false, false]) rfl rfl rfl (by kernel_rfl) (by kernel_rfl) (by kernel_rfl) (by kernel_rfl) (fun _ _ _ h => h) (by rfl) ?hv5x13 hS0 ?h5x13
      case hv5x13 => intro u hSu; clear hSu; go_simp; (try with_reducible rfl)
      (try simp only [Act.put, List.setIfInBounds_toArray, List.set_cons_zero, List.set_cons_succ])
      refine regN_take (i := 13) (d := (some 37)) (v := ?v5x14) (l2 := #[true, true, true, true, true, true, true, true, true, true, true, true, true, true, false, false, false, false, false, false, false, false]) rfl rfl rfl (by kernel_rfl) (by kernel_rfl) (by kernel_rfl) (by kernel_rfl) (fun _ _ _ h => h) (by rfl) ?hv5x14 hS0 ?h5x14
      case hv5x14 => intro u hSu; clear hSu; go_simp; (try with_reducible rfl)
      (try simp only [Act.put, List.setIfInBounds_toArray, List.set_cons_zero, List.set_cons_succ])
      refine regN_take (i := 14) (d := (some 38)) (v := ?v5x15) (l2 := #[true, true, true, true, true, true, true, true, true, true, true, true, true, true, true, false, false, false, false, false, false, false]) rfl rfl rfl (by kernel_rfl) (by kernel_rfl) (by kernel_rfl) (by kernel_rfl) (fun _ _ _ h => h) (by rfl) ?hv5x15 hS0 ?h5x15
      case hv5x15 => intro u hSu; (try dsimp only at hSu); (try go_split_ands); go_simp; (try with_reducible rfl)
      (try simp only [Act.put, List.setIfInBounds_toArray, List.set_cons_zero, List.set_cons_succ])
      refine regN_ready (rs := [15]) (by kernel_rfl) (by simp) ?_
      refine (AllN.cons (i := 15) (l2 := #[true, true, true, true, true, true, true, true, true, true, true, true, true, true, true, true, false, false, false, false, false, false]) rfl rfl (fun K hK => ?_) AllN.nil)
      go_simp
      have hS1 : ((fun W : World => W.cell? ⟨g, o + k * 4, none⟩ = some (.int .i64 x.f) ∧ W.cell? ⟨g, o + k * 4 + 1, none⟩ = some (.int .i64 x.n) ∧ W.cell? ⟨g, o + k * 4 + 2, none⟩ = some (.int .i64 x.d) ∧ W.cell? ⟨g, o + k * 4 + 3, none⟩ = some (.slice x.A x.k x.c)) : World → Prop) _ := (show (fun W : World => W.cell? ⟨g, o + k * 4, none⟩ = some (.int .i64 x.f) ∧ W.cell? ⟨g, o + k * 4 + 1, none⟩ = some (.int .i64 x.n) ∧ W.cell? ⟨g, o + k * 4 + 2, none⟩ = some (.int .i64 x.d) ∧ W.cell? ⟨g, o + k * 4 + 3, none⟩ = some (.slice x.A x.k x.c)) (wr.drew.alloc (.cells #[.int .i64 x.f, .int .i64 x.n, .int .i64 x.d] 3)) from ⟨((below_al (Below.refl _ wr.drew) (.cells #[.int .i64 x.f, .int .i64 x.n, .int .i64 x.d] 3)).cell (p := ⟨g, _, none⟩) hg).trans a0, ((below_al (Below.refl _ wr.drew) (.cells #[.int .i64 x.f, .int .i64 x.n, .int .i64 x.d] 3)).cell (p := ⟨g, _, none⟩) hg).trans a1, ((below_al (Below.refl _ wr.drew) (.cells #[.int .i64 x.f, .int .i64 x.n, .int .i64 x.d] 3)).cell (p := ⟨g, _, none⟩) hg).trans a2, ((below_al (Below.refl _ wr.drew) (.cells #[.int .i64 x.f, .int .i64 x.n, .int .i64 x.d] 3)).cell (p := ⟨g, _, none⟩) hg).trans a3⟩)
      refine hK _ _ (fun _ => hS1) ?_
      clear hK K
      (try simp only [Act.put, List.setIfInBounds_toArray, List.set_cons_zero, List.set_cons_succ])
      refine regN_ready (rs := [16]) (by kernel_rfl) (by simp) ?_
      refine (AllN.cons (i := 16) (l2 := #[true, true, true, true, true, true, true, true, true, true, true, true, true, true, true, true, true, false, false, false, false, false]) rfl rfl (fun K hK => ?_) AllN.nil)
      go_simp
      go_at_call 24
      refine (rnumbersW_any (n := 3) (L := [x.f, x.n, x.d]) (row3_at (W := wr.drew) x.f x.n x.d) rfl (by decide) _ (Below.refl _ _)).mono ?_
      rintro r w6 ⟨⟨y6, rfl, hy6⟩, hb6⟩
      have HY6 := Lib.hid hy6
      have hb7 := below_on (below_al (Below.refl wr.drew.heap.size wr.drew) (.cells #[.int .i64 x.f, .int .i64 x.n, .int .i64 x.d] 3)) hb6
      have HB6 := Lib.hid (show Below wr.heap.size wr w6 from ⟨hb7.os, hb7.tape, hb7.output, hb7.size, hb7.block⟩)
      clear hy6 hb6
      go_simp
      have hS2 : ((fun W : World => W.cell? ⟨g, o + k * 4, none⟩ = some (.int .i64 x.f) ∧ W.cell? ⟨g, o + k * 4 + 1, none⟩ = some (.int .i64 x.n) ∧ W.cell? ⟨g, o + k * 4 + 2, none⟩ = some (.int .i64 x.d) ∧ W.cell? ⟨g, o + k * 4 + 3, none⟩ = some (.slice x.A x.k x.c)) : World → Prop) _ := (show (fun W : World => W.cell? ⟨g, o + k * 4, none⟩ = some (.int .i64 x.f) ∧ W.cell? ⟨g, o + k * 4 + 1, none⟩ = some (.int .i64 x.n) ∧ W.cell? ⟨g, o + k * 4 + 2, none⟩ = some (.int .i64 x.d) ∧ W.cell? ⟨g, o + k * 4 + 3, none⟩ = some (.slice x.A x.k x.c)) w6 from ⟨(HB6.out.cell (p := ⟨g, _, none⟩) hg).trans a0, (HB6.out.cell (p := ⟨g, _, none⟩) hg).trans a1, (HB6.out.cell (p := ⟨g, _, none⟩) hg).trans a2, (HB6.out.cell (p := ⟨g, _, none⟩) hg).trans a3⟩)
      refine hK _ _ (fun _ => hS2) ?_
      clear hK K
      (try simp only [Act.put, List.setIfInBounds_toArray, List.set_cons_zero, List.set_cons_succ])
      refine regN_take (i := 17) (d := (some 23)) (v := ?v5x16) (l2 := #[true, true, true, true, true, true, true, true, true, true, true, true, true, true, true, true, true, true, false, false, false, false]) rfl rfl rfl (by kernel_rfl) (by kernel_rfl) (by kernel_rfl) (by kernel_rfl) (fun _ _ _ h => h) (by rfl) ?hv5x16 hS2 ?h5x16
      case hv5x16 => intro u hSu; clear hSu; go_simp; (try with_reducible rfl)
      (try simp only [Act.put, List.setIfInBounds_toArray, List.set_cons_zero, List.set_cons_succ])
      refine regN_take (i := 18) (d := (some 41)) (v := ?v5x17) (l2 := #[true, true, true, true, true, true, true, true, true, true, true, true, true, true, true, true, true, true, true, false, false, false]) rfl rfl rfl (by kernel_rfl) (by kernel_rfl) (by kernel_rfl) (by kernel_rfl) (fun _ _ _ h => h) (by rfl) ?hv5x17 hS2 ?h5x17
      case hv5x17 => intro u hSu; clear hSu; go_simp; (try with_reducible rfl)
      (try simp only [Act.put, List.setIfInBounds_toArray, List.set_cons_zero, List.set_cons_succ])
      refine regN_take (i := 19) (d := (some 42)) (v := ?v5x18) (l2 := #[true, true, true, true, true, true, true, true, true, true, true, true, true, true, true, true, true, true, true, true, false, false]) rfl rfl rfl (by kernel_rfl) (by kernel_rfl) (by kernel_rfl) (by kernel_rfl) (fun _ _ _ h => h) (by rfl) ?hv5x18 hS2 ?h5x18
      case hv5x18 => intro u hSu; clear hSu; go_simp; (try with_reducible rfl)
      (try simp only [Act.put, List.setIfInBounds_toArray, List.set_cons_zero, List.set_cons_succ])
      refine regN_take (i := 20) (d := (some 7)) (v := ?v5x19) (l2 := #[true, true, true, true, true, true, true, true, true, true, true, true, true, true, true, true, true, true, true, true, true, false]) rfl rfl rfl (by kernel_rfl) (by kernel_rfl) (by kernel_rfl) (by kernel_rfl) (fun _ _ _ h => h) (by rfl) ?hv5x19 hS2 ?h5x19
      case hv5x19 => intro u hSu; clear hSu; go_simp; (try with_reducible rfl)
      (try simp only [Act.put, List.setIfInBounds_toArray, List.set_cons_zero, List.set_cons_succ])
      refine regN_ready (rs := [21]) (by kernel_rfl) (by simp) ?_
      refine (AllN.cons (i := 21) (l2 := #[true, true, true, true, true, true, true, true, true, true, true, true, true, true, true, true, true, true, true, true, true, true]) rfl rfl (fun K hK => ?_) AllN.nil)
      go_simp
      refine hK _ _ (fun h => absurd rfl h) ?_
      clear hK K
      (try simp only [Act.put, List.setIfInBounds_toArray, List.set_cons_zero, List.set_cons_succ])
      refine regN_done (by kernel_rfl) ?_ _
      have hS9 := hS2
      clear hS0 hS1 hS2 hb7
      replace hg := Nat.lt_of_lt_of_le hg HB6.out.size
      obtain ⟨e0, e1, e2, e3⟩ := hS9
      cases hw : wdL [x.f, x.n, x.d] with
      | true =>
        have HW := Lib.hid hw
        rw [hw] at HY6
        have hwn : (!true) = false := rfl
        clear hw
        go_wp2_with (go_at_call 27; refine (KA.out _ (below_on HB.out HB6.out)).mono ?_; rintro r w8 ⟨⟨y8, rfl, hy8⟩, hb8⟩; have HB8 := Lib.hid hb8; clear hb8 hy8)
        go_ret2
        exact TxRet.no (any_stop HX.out (by unfold mlB; show (wdL [x.f, x.n, x.d] || _) = true; rw [HW.out]; rfl)) (below_on (below_on HB.out HB6.out) HB8.out)
      | false =>
        have HW := Lib.hid hw
        obtain rfl := HY6.out hw
        clear hw
        cases hz : waL x.l with
        | true =>
          have HZ := Lib.hid hz
          rw [hz] at KA
          clear hz
          go_wp2_with (go_at_call 27; refine (KA.out _ (below_on HB.out HB6.out)).mono ?_; rintro r w8 ⟨⟨y8, rfl, hy8⟩, hb8⟩; have HB8 := Lib.hid hb8; clear hb8 hy8)
          go_ret2
          exact TxRet.no (any_stop HX.out (by unfold mlB; show (_ || waL x.l) = true; rw [HZ.out]; simp)) (below_on (below_on HB.out HB6.out) HB8.out)
        | false =>
          have HZ := Lib.hid hz
          have h3s := p2_size [x.f, x.n, x.d] (by show 3 ≤ 100; decide) 3
          have has := asB_sz (show x.l.length ≤ 100 by rw [hxl]; exact hxk) hz
          have HT := Lib.hid (show X2 ++ catB mvB ((L.map Mb.v).take (k + 1)) = X2 ++ catB mvB ((L.map Mb.v).take k) ++ catB p2B [x.f, x.n, x.d] ++ asB x.l by rw [catB_take HX.out, ← ByteArray.append_assoc, mvB_num, ← ByteArray.append_assoc]; rfl)
          rw [hz] at KA
          rw [show List.take 3 [x.f, x.n, x.d] = [x.f, x.n, x.d] from rfl] at h3s
          obtain ⟨T, hT⟩ : ∃ T, X2 ++ catB mvB ((L.map Mb.v).take k) = T := ⟨_, rfl⟩
          obtain ⟨Y, hY⟩ : ∃ Y, catB p2B [x.f, x.n, x.d] = Y := ⟨_, rfl⟩
          obtain ⟨Z, hZ⟩ : ∃ Z, asB x.l = Z := ⟨_, rfl⟩
          rw [hT, hY, hZ] at HT
          rw [hT] at hts
          rw [hY] at h3s
          rw [hZ] at has KA
          rw [hT, hY]
          clear hz hT hY hZ
          go_wp2_with (go_at_call 27; refine (KA.out _ (below_on HB.out HB6.out)).mono ?_; rintro r w8 ⟨⟨y8, rfl, hy8⟩, hb8⟩; have HB8 := Lib.hid hb8; obtain rfl := hy8 rfl; clear hb8 hy8)
          go_roundw
          case rel => exact ⟨k + 1, by omega, by go_num, by rw [HT.out], any_next HX.out HNO.out (by unfold mlB; show (wdL [x.f, x.n, x.d] || waL x.l) = false; rw [HW.out, HZ.out]; rfl), below_on (below_on HB.out HB6.out) HB8.out⟩
          case measure => simp [intOf]; omega
    · obtain rfl : k = n := by omega
      have HT := Lib.hid (show X2 ++ catB mvB ((L.map Mb.v).take k) = msB (L.map Mb.v) by rw [List.take_of_length_le (by rw [List.length_map, HL.out]; exact Nat.le_refl _), HQ.out])
      go_wp2
      go_ret2
      exact TxRet.yes (any_all HNO.out (by rw [List.length_map]; exact HL.out)) HT.out HB.out

end Go.Proofs.YthfegbhbokhlkaaGreatDoor
