/- Layer 9: allValid. -/
import Derived.Test.YtdppooflbjlbcaaDoorCa
import Derived.Test.YtdppooflbjlbcaaDoorInCi
namespace Go.Proofs.YtdppooflbjlbcaaDoor.I
open Go.ChangeShapes Go.WideShapes Go.ChangeAt Go.RowKit Go.PlainAid
set_option linter.unusedSimpArgs false
set_option linter.unusedVariables false

def ciB (i : In) : Bool := ciE i != 0
def alV (L : List In) : Bool := !L.any ciB
theorem any_take {α : Type} {p : α → Bool} {l : List α} {k : Nat} {x : α} (h : l[k]? = some x) : (l.take (k + 1)).any p = ((l.take k).any p || p x) := by
  have : l.take (k + 1) = l.take k ++ [x] := by rw [List.take_add_one, h]; rfl
  rw [this, List.any_append]; simp
theorem any_of {α : Type} {p : α → Bool} {l : List α} {k : Nat} {x : α} (h : l[k]? = some x) (hp : p x = true) : l.any p = true := List.any_eq_true.2 ⟨x, List.mem_of_getElem? h, hp⟩
set_option maxRecDepth 100000 in
set_option maxHeartbeats 4000000 in
theorem avc_any (i : In) (w : World) (hok : i.ok w w.heap.size) : Calls Tryd.prog 86 #[(Value.agg #[Value.int IntKind.i64 (In.op i), Value.int IntKind.i64 (In.a i), Value.int IntKind.i64 (In.b i), Value.int IntKind.i64 (In.t i), Value.slice (In.kA i) (In.kn i) (In.kc i), Value.slice (In.tA i) (In.tn i) (In.tc i), Value.string (In.r1 i), Value.string (In.r2 i), Value.string (In.r3 i), Value.string (In.s i)])] w fun e w' => e = .returned (.bool (ciB i)) ∧ Below w.heap.size w w' := by
  have hB : Below w.heap.size w w := Below.refl _ _
  have OK := Lib.hid hok
  have HC := Lib.hid (show (ciE i != 0) = ciB i from rfl)
  obtain ⟨r, hr⟩ : ∃ r, ciE i = r := ⟨_, rfl⟩
  rw [hr] at HC
  rw [← HC.out]
  have HR := Lib.hid hr
  clear hok hr
  go_enter Tryd.func86, Tryd.ntmps86
  go_upto_region 1 with fail
  have R := World.alloc_heap_new w (.cells #[.int .i64 i.op, .int .i64 i.a, .int .i64 i.b, .int .i64 i.t, .slice i.kA i.kn i.kc, .slice i.tA i.tn i.tc, .string i.r1, .string i.r2, .string i.r3, .string i.s] 43)
  replace hB := below_al hB (.cells #[.int .i64 i.op, .int .i64 i.a, .int .i64 i.b, .int .i64 i.t, .slice i.kA i.kn i.kc, .slice i.tA i.tn i.tc, .string i.r1, .string i.r2, .string i.r3, .string i.s] 43)
  generalize w.alloc (.cells #[.int .i64 i.op, .int .i64 i.a, .int .i64 i.b, .int .i64 i.t, .slice i.kA i.kn i.kc, .slice i.tA i.tn i.tc, .string i.r1, .string i.r2, .string i.r3, .string i.s] 43) = W1 at R hB ⊢
  obtain ⟨r0, r1, r2, r3, r4, r5, r6, r7, r8, r9⟩ := ten_cells R
  have y1 := lt_heap R
  replace R := Lib.hid R
  have OK1 := Lib.hid (OK.out.up hB)
  go_wp2_with (go_at_call 65; refine (chk_any i _ OK1.out).mono ?_; rintro e w2 ⟨rfl, hb2⟩; rw [HR.out])
  go_ret
  exact ⟨rfl, below_on hB hb2⟩
def IxRet (b : Bool) (w : World) (e : Ending) (w' : World) : Prop := ∃ r : Int, e = .returned (.int .i64 r) ∧ (decide (0 ≤ r)) = b ∧ Below w.heap.size w w'
set_option maxRecDepth 100000 in
set_option maxHeartbeats 4000000 in
theorem ixi_any {A : Option Addr} {n c : Nat} {L : List In} (hn : L.length = n) (hN : n ≤ 1000000) (w : World) (hp : Ins w w.heap.size A L) :
    Calls Tryd.prog 111 #[.slice A n c, .func (.func 86) #[] #[]] w (IxRet (L.any ciB) w) := by
  have HP := Lib.hid hp
  have HN := Lib.hid hn
  have hen : Enters Tryd.prog 86 := enters_of Tryd.func86 (by kernel_rfl) rfl
  have he2 : ∀ (args : Array Value) (w : World), (callFunc 86 args).run Tryd.prog w = .ok (.enter 86 args) w := hen
  clear hp hn
  go_enter Tryd.func111, Tryd.ntmps111
  go_wp2
  go_loopw [8] (fun z wr => ∃ k : Nat, k ≤ n ∧ z = .int .i64 k ∧ (L.take k).any ciB = false ∧ Below w.heap.size w wr) (fun z _ => n - (intOf z).toNat)
  case atStart => exact ⟨0, Nat.zero_le _, rfl, rfl, Below.refl _ _⟩
  case round =>
    obtain ⟨k, hk, rfl, hall, hb⟩ := hrel
    have HALL := Lib.hid hall
    have HB := Lib.hid hb
    have HPr := Lib.hid (HP.out.up hb)
    clear hall hb
    by_cases hlt : k < n
    · obtain ⟨i, hi⟩ := get_someF (l := L) (k := k) (by rw [HN.out]; exact hlt)
      rcases HPr.out with h0 | ⟨g, o, rfl, hg, hcell⟩
      · rw [h0] at hi; simp at hi
      · obtain ⟨iok, a0, a1, a2, a3, a4, a5, a6, a7, a8, a9⟩ := hcell k _ hi
        have IOK := Lib.hid iok
        have HAT := Lib.hid (any_take (p := ciB) hi)
        have HOF := Lib.hid (any_of (p := ciB) hi)
        have hk0 : (0 : Int) ≤ (k : Int) := by omega
        have hk1 : (k : Int) < (n : Int) := by omega
        clear hcell iok hi
        cases hc : ciB i with
        | true =>
          have HC := Lib.hid hc
          clear hc
          go_wp2_with (first | (go_at_call 86; refine (avc_any i _ IOK.out).mono ?_; rintro e w2 ⟨rfl, hb2⟩; rw [HC.out]) | (go_at_fn 86; refine (avc_any i _ IOK.out).mono ?_; rintro e w2 ⟨rfl, hb2⟩; rw [HC.out]))
          go_ret
          exact ⟨k, rfl, by rw [HOF.out HC.out]; simp, below_on HB.out hb2⟩
        | false =>
          have HC := Lib.hid hc
          clear hc
          go_wp2_with (first | (go_at_call 86; refine (avc_any i _ IOK.out).mono ?_; rintro e w2 ⟨rfl, hb2⟩; rw [HC.out]) | (go_at_fn 86; refine (avc_any i _ IOK.out).mono ?_; rintro e w2 ⟨rfl, hb2⟩; rw [HC.out]))
          exact ⟨⟨k + 1, hlt, by go_num, by rw [HAT.out, HALL.out, HC.out]; rfl, below_on HB.out hb2⟩, by simp [intOf]; omega⟩
    · obtain rfl : n = k := by omega
      go_wp2
      go_ret
      exact ⟨-1, rfl, by have h9 := HALL.out; rw [List.take_of_length_le (by rw [HN.out]; exact Nat.le_refl _)] at h9; rw [h9]; decide, HB.out⟩
set_option maxRecDepth 100000 in
set_option maxHeartbeats 4000000 in
theorem cfi_any {A : Option Addr} {n c : Nat} {L : List In} (hn : L.length = n) (hN : n ≤ 1000000) (w : World) (hp : Ins w w.heap.size A L) :
    Calls Tryd.prog 85 #[.slice A n c, .func (.func 86) #[] #[]] w fun e w' => e = .returned (.bool (L.any ciB)) ∧ Below w.heap.size w w' := by
  have K := Lib.hid (ixi_any (c := c) hn hN w hp)
  clear hn hp
  generalize L.any ciB = b at K ⊢
  go_enter Tryd.func85, Tryd.ntmps85
  go_wp2_with (go_at_call 111; refine K.out.mono ?_; rintro e w2 ⟨r, rfl, hr, hb2⟩)
  go_ret
  exact ⟨by rw [← hr]; first | rfl | simp, hb2⟩
set_option maxRecDepth 100000 in
set_option maxHeartbeats 4000000 in
theorem av_any {A : Option Addr} {n c : Nat} {L : List In} (hn : L.length = n) (hN : n ≤ 1000000) (w : World) (hp : Ins w w.heap.size A L) :
    Calls Tryd.prog 64 #[.slice A n c] w fun e w' => e = .returned (.bool (alV L)) ∧ Below w.heap.size w w' := by
  have K := Lib.hid (cfi_any (c := c) hn hN w hp)
  unfold alV
  clear hn hp
  generalize L.any ciB = b at K ⊢
  go_enter Tryd.func64, Tryd.ntmps64
  go_wp2_with (go_at_call 85; refine K.out.mono ?_; rintro e w2 ⟨rfl, hb2⟩)
  go_ret
  exact ⟨rfl, hb2⟩

end Go.Proofs.YtdppooflbjlbcaaDoor.I
