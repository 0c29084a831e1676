/- Layer 42: a number's place in a list; the targets of switches. -/
import Derived.Test.YtgiglbjkijlchaaRg
import Derived.Test.YtgiglbjkijlchaaIn0
namespace Go.Proofs.Ytgiglbjkijlchaa
open Go.ChangeShapes Go.WideShapes Go.ChangeAt Go.RowKit Go.PlainAid
set_option linter.unusedSimpArgs false
set_option linter.unusedVariables false

def ixF (L : List Int) (x : Int) : Nat := L.findIdx (fun c => c == x)
theorem ixF_le (L : List Int) (x : Int) : ixF L x ≤ L.length := List.findIdx_le_length
theorem ixF_here {L : List Int} {x : Int} {k : Nat} (h : k ≤ ixF L x) (hk : L[k]? = some x) : ixF L x = k := by
  have hl := get_ltF hk
  rcases Nat.lt_or_ge k (ixF L x) with h1 | h1
  · have := List.not_of_lt_findIdx h1
    rw [List.getElem?_eq_getElem hl] at hk
    have hx := Option.some.inj hk
    simp only [hx] at this
    simp at this
  · exact Nat.le_antisymm h1 h
theorem ixF_next {L : List Int} {x p : Int} {k : Nat} (h : k ≤ ixF L x) (hk : L[k]? = some p) (hp : p ≠ x) : k + 1 ≤ ixF L x := by
  have hl := get_ltF hk
  rcases Nat.lt_or_ge k (ixF L x) with h1 | h1
  · exact h1
  · exfalso
    have e : ixF L x = k := Nat.le_antisymm h1 h
    have hlt : ixF L x < L.length := by rw [e]; exact hl
    have := List.findIdx_getElem (p := fun c => c == x) (w := hlt)
    rw [List.getElem?_eq_getElem hl] at hk
    have hx := Option.some.inj hk
    have e' : List.findIdx (fun c => c == x) L = k := e
    simp only [e'] at this
    rw [hx] at this
    exact hp (by simpa using this)
def ixG (L : List Int) (x : Int) : Int := if ixF L x < L.length then ixF L x else -1

set_option maxHeartbeats 1000000 in
theorem index_any {A : Option Addr} {n c : Nat} {L : List Int} (x : Int) (hn : L.length = n) (hN : n ≤ 100000) (w : World) (hp : Row w w.heap.size A L) :
    Calls Try.prog 46 #[.slice A n c, .int .i64 x] w fun e w' => e = .returned (.int .i64 (ixG L x)) ∧ Below w.heap.size w w' := by
  have hB : Below w.heap.size w w := Below.refl _ _
  have HP := Lib.hid hp
  have HN := Lib.hid hn
  clear hn hp
  go_enter Try.func46, Try.ntmps46
  go_wp2
  go_loopw [8] (fun i wr => ∃ k q : Nat, k ≤ ixF L x ∧ i = .int .i64 k ∧ wr = w.drewN q) (fun i _ => n - (intOf i).toNat)
  case atStart => exact ⟨0, 0, Nat.zero_le _, rfl, rfl⟩
  case round =>
    obtain ⟨k, q, hk, rfl, rfl⟩ := hrel
    have hle := ixF_le L x
    rw [HN.out] at hle
    by_cases hlt : k < n
    · have hp : ∃ p, L[k]? = some p := ⟨L[k]'(by rw [HN.out]; exact hlt), List.getElem?_eq_getElem _⟩
      obtain ⟨p, hp⟩ := hp
      rcases HP.out with h0 | ⟨b, o, rfl, hg, hcell⟩
      · rw [h0] at hp; cases hp
      · have a0 := hcell k _ hp
        clear hcell
        have hk0 : (0 : Int) ≤ (k : Int) := by omega
        have hk1 : (k : Int) < (n : Int) := by omega
        have HK := Lib.hid hk
        have HPK := Lib.hid hp
        clear hle hk hp
        by_cases he : p = x
        · have hI : ixG L x = k := by unfold ixG; rw [ixF_here HK.out (by rw [HPK.out, he]), if_pos (by rw [HN.out]; exact hlt)]
          have e1 : (x == p) = true := by simp [he]
          go_wp2
          go_ret
          exact ⟨by rw [hI]; rfl, below_dr hB _⟩
        · have e1 : (x == p) = false := by simpa using fun e : x = p => he e.symm
          go_wp2
          go_roundw
          case rel => exact ⟨k + 1, _, ixF_next HK.out HPK.out he, by go_num, rfl⟩
          case measure => simp [intOf]; omega
    · obtain rfl : k = n := by omega
      have hI : ixG L x = -1 := by unfold ixG; rw [if_neg (by rw [HN.out]; omega)]
      go_wp2
      go_ret
      exact ⟨by rw [hI]; rfl, below_dr hB _⟩

def tabV (i : In) (n : Int) : Int := if i.a ≤ n ∧ n - i.a < (i.ts.length : Int) then i.ts.getD (n - i.a).toNat 0 else i.t
def lookV (i : In) (n : Int) : Int := if ixF i.ks n < i.ks.length ∧ ixF i.ks n < i.ts.length then i.ts.getD (ixF i.ks n) 0 else i.t

set_option maxRecDepth 100000 in
set_option maxHeartbeats 1000000 in
theorem look_any {W : World} (i : In) (n : Int) (hi : i.ok W W.heap.size) (h1 : i.kn ≤ 100000) (h2 : i.tn ≤ 100000) :
    Calls Try.prog 29 #[(Value.agg #[Value.int IntKind.i64 (In.op i), Value.int IntKind.i64 (In.a i), Value.int IntKind.i64 (In.b i), Value.int IntKind.i64 (In.t i), Value.slice (In.kA i) (In.kn i) (In.kc i), Value.slice (In.tA i) (In.tn i) (In.tc i), Value.string (In.r1 i), Value.string (In.r2 i), Value.string (In.r3 i), Value.string (In.s i)]), .int .i64 n] W fun e w' => e = .returned (.int .i64 (lookV i n)) ∧ Below W.heap.size W w' := by
  have hb1 := below_al (Below.refl W.heap.size W) (.cells #[.int .i64 i.op, .int .i64 i.a, .int .i64 i.b, .int .i64 i.t, .slice i.kA i.kn i.kc, .slice i.tA i.tn i.tc, .string i.r1, .string i.r2, .string i.r3, .string i.s] 29)
  have HI := Lib.hid (hi.up hb1)
  have R := World.alloc_heap_new W (.cells #[.int .i64 i.op, .int .i64 i.a, .int .i64 i.b, .int .i64 i.t, .slice i.kA i.kn i.kc, .slice i.tA i.tn i.tc, .string i.r1, .string i.r2, .string i.r3, .string i.s] 29)
  have hB := hb1
  clear hi
  go_enter Try.func29, Try.ntmps29
  go_upto_region 1 with fail
  generalize W.alloc (.cells #[.int .i64 i.op, .int .i64 i.a, .int .i64 i.b, .int .i64 i.t, .slice i.kA i.kn i.kc, .slice i.tA i.tn i.tc, .string i.r1, .string i.r2, .string i.r3, .string i.s] 29) = W1 at hb1 HI R hB ⊢
  obtain ⟨r0, r1, r2, r3, r4, r5, r6, r7, r8, r9⟩ := ten_cells R
  have hz := lt_heapV R
  obtain ⟨k1, k2, k3, k4, t1, t2, t3, t4⟩ := HI.out
  have HX := Lib.hid (fun w h => index_any (A := i.kA) (c := i.kc) n k1 h1 w h)
  have HK := Lib.hid k4
  have HT := Lib.hid t4
  have HT1 := Lib.hid t1
  have HK1 := Lib.hid k1
  clear k1 k2 k3 k4 t1 t2 t3 t4
  rcases Nat.lt_or_ge (ixF i.ks n) i.ks.length with hk | hk
  · rcases Nat.lt_or_ge (ixF i.ks n) i.ts.length with ht | ht
    · have HV := Lib.hid (show lookV i n = i.ts.getD (ixF i.ks n) 0 from if_pos ⟨hk, ht⟩)
      have hx : ixG i.ks n = (ixF i.ks n : Nat) := if_pos hk
      rw [hx] at HX
      clear hx
      obtain ⟨g, o, hA, hg, hc⟩ := HT.out.at (Nat.lt_of_le_of_lt (Nat.zero_le _) ht)
      have hcx := hc _ ht
      obtain ⟨y, hy⟩ : ∃ y, i.ts.getD (ixF i.ks n) 0 = y := ⟨_, rfl⟩
      rw [hy] at hcx HV
      rw [HT1.out] at ht
      generalize ixF i.ks n = q at HX hk ht hcx HV hy
      have hq0 : (0 : Int) ≤ (q : Int) := by omega
      have hq1 : (q : Int) < (i.tn : Int) := by omega
      have HC := Lib.hid hcx
      have HA := Lib.hid hA
      clear hc hy hcx hk hA
      rw [HA.out] at r5
      go_wp2_with (go_at_call 46; refine (HX.out _ (by first | exact HK.out | exact HK.out.up (Below.refl _ _).drew)).mono ?_; rintro e w2 ⟨rfl, hb2⟩; have hc3 := (hb2.cell (p := ⟨W.heap.size, 3, none⟩) hz).trans r3; have hc5 := (hb2.cell (p := ⟨W.heap.size, 5, none⟩) hz).trans r5; have hz2 := Nat.lt_of_lt_of_le hz hb2.size; have hcq := (hb2.cell (p := ⟨g, _, none⟩) hg).trans HC.out)
      go_ret
      rw [HV.out]
      exact ⟨rfl, below_on hB hb2⟩
    · have HV := Lib.hid (show lookV i n = i.t from if_neg (fun h => by omega))
      have hx : ixG i.ks n = (ixF i.ks n : Nat) := if_pos hk
      rw [hx] at HX
      clear hx
      rw [HT1.out] at ht
      generalize ixF i.ks n = q at HX hk ht HV
      have hq0 : (0 : Int) ≤ (q : Int) := by omega
      have hq1 : (i.tn : Int) ≤ (q : Int) := by omega
      clear hk
      go_wp2_with (go_at_call 46; refine (HX.out _ (by first | exact HK.out | exact HK.out.up (Below.refl _ _).drew)).mono ?_; rintro e w2 ⟨rfl, hb2⟩; have hc3 := (hb2.cell (p := ⟨W.heap.size, 3, none⟩) hz).trans r3; have hc5 := (hb2.cell (p := ⟨W.heap.size, 5, none⟩) hz).trans r5; have hz2 := Nat.lt_of_lt_of_le hz hb2.size)
      go_ret
      rw [HV.out]
      exact ⟨rfl, below_on hB hb2⟩
  · have HV := Lib.hid (show lookV i n = i.t from if_neg (fun h => by omega))
    have hx : ixG i.ks n = -1 := if_neg (by omega)
    rw [hx] at HX
    clear hx hk
    go_wp2_with (go_at_call 46; refine (HX.out _ (by first | exact HK.out | exact HK.out.up (Below.refl _ _).drew)).mono ?_; rintro e w2 ⟨rfl, hb2⟩; have hc3 := (hb2.cell (p := ⟨W.heap.size, 3, none⟩) hz).trans r3; have hc5 := (hb2.cell (p := ⟨W.heap.size, 5, none⟩) hz).trans r5; have hz2 := Nat.lt_of_lt_of_le hz hb2.size)
    go_ret
    rw [HV.out]
    exact ⟨rfl, below_on hB hb2⟩

set_option maxRecDepth 100000 in
set_option maxHeartbeats 1000000 in
theorem tab_any {W : World} (i : In) (n : Int) (hi : i.ok W W.heap.size) (h2 : i.tn ≤ 100000) (hr : -9223372036854775808 ≤ n ∧ n ≤ 9223372036854775807) (hra : -9223372036854775808 ≤ i.a ∧ i.a ≤ 9223372036854775807) :
    Calls Try.prog 27 #[(Value.agg #[Value.int IntKind.i64 (In.op i), Value.int IntKind.i64 (In.a i), Value.int IntKind.i64 (In.b i), Value.int IntKind.i64 (In.t i), Value.slice (In.kA i) (In.kn i) (In.kc i), Value.slice (In.tA i) (In.tn i) (In.tc i), Value.string (In.r1 i), Value.string (In.r2 i), Value.string (In.r3 i), Value.string (In.s i)]), .int .i64 n] W fun e w' => e = .returned (.int .i64 (tabV i n)) ∧ Below W.heap.size W w' := by
  have hb1 := below_al (Below.refl W.heap.size W) (.cells #[.int .i64 i.op, .int .i64 i.a, .int .i64 i.b, .int .i64 i.t, .slice i.kA i.kn i.kc, .slice i.tA i.tn i.tc, .string i.r1, .string i.r2, .string i.r3, .string i.s] 29)
  have HI := Lib.hid (hi.up hb1)
  have R := World.alloc_heap_new W (.cells #[.int .i64 i.op, .int .i64 i.a, .int .i64 i.b, .int .i64 i.t, .slice i.kA i.kn i.kc, .slice i.tA i.tn i.tc, .string i.r1, .string i.r2, .string i.r3, .string i.s] 29)
  have hB := hb1
  clear hi
  go_enter Try.func27, Try.ntmps27
  go_upto_region 1 with fail
  generalize W.alloc (.cells #[.int .i64 i.op, .int .i64 i.a, .int .i64 i.b, .int .i64 i.t, .slice i.kA i.kn i.kc, .slice i.tA i.tn i.tc, .string i.r1, .string i.r2, .string i.r3, .string i.s] 29) = W1 at hb1 HI R hB ⊢
  obtain ⟨r0, r1, r2, r3, r4, r5, r6, r7, r8, r9⟩ := ten_cells R
  have hz := lt_heapV R
  obtain ⟨k1, k2, k3, k4, t1, t2, t3, t4⟩ := HI.out
  have HT := Lib.hid t4
  have HT1 := Lib.hid t1
  clear k1 k2 k3 k4 t1 t2 t3 t4
  by_cases h0 : i.a ≤ n
  · obtain ⟨q, hq⟩ : ∃ q : Nat, n - i.a = (q : Int) := ⟨(n - i.a).toNat, by omega⟩
    have hu : IntKind.u64.wrap (IntKind.u64.wrap n - IntKind.u64.wrap i.a) = (q : Int) := by
      have e : ∀ z : Int, IntKind.u64.wrap z = z % 18446744073709551616 := fun z => rfl
      rw [e, e, e]; omega
    rcases Nat.lt_or_ge q i.ts.length with ht | ht
    · have HV := Lib.hid (show tabV i n = i.ts.getD q 0 from (if_pos ⟨h0, by omega⟩).trans (by rw [hq]; rfl))
      obtain ⟨g, o, hA, hg, hc⟩ := HT.out.at (Nat.lt_of_le_of_lt (Nat.zero_le _) ht)
      have hcx := hc _ ht
      obtain ⟨y, hy⟩ : ∃ y, i.ts.getD q 0 = y := ⟨_, rfl⟩
      rw [hy] at hcx HV
      rw [HT1.out] at ht
      have hq0 : (0 : Int) ≤ (q : Int) := by omega
      have hq1 : (q : Int) < (i.tn : Int) := by omega
      rw [hA] at r5
      clear hc hy hA
      have hul : IntKind.u64.wrap (IntKind.u64.wrap n - IntKind.u64.wrap i.a) < (i.tn : Int) := by rw [hu]; omega
      clear hu
      go_wp2
      go_ret
      rw [HV.out]
      exact ⟨rfl, hB⟩
    · have HV := Lib.hid (show tabV i n = i.t from if_neg (fun h => by omega))
      rw [HT1.out] at ht
      have hq1 : (i.tn : Int) ≤ (q : Int) := by omega
      have hul : (i.tn : Int) ≤ IntKind.u64.wrap (IntKind.u64.wrap n - IntKind.u64.wrap i.a) := by rw [hu]; omega
      clear hu
      go_wp2
      go_ret
      rw [HV.out]
      exact ⟨rfl, hB⟩
  · have HV := Lib.hid (show tabV i n = i.t from if_neg (fun h => by omega))
    have h1 : n < i.a := by omega
    go_wp2
    go_ret
    rw [HV.out]
    exact ⟨rfl, hB⟩
end Go.Proofs.Ytgiglbjkijlchaa
