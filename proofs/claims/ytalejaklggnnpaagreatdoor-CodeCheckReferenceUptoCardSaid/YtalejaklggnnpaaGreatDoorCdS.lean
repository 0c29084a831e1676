import Derived.Test.YtalejaklggnnpaaGreatDoorCa
import Derived.Test.YtalejaklggnnpaaGreatDoorInCi
import Derived.Test.YtalejaklggnnpaaGreatDoorIn
/- Layer 9: allValid. -/
namespace Go.Proofs.YtalejaklggnnpaaGreatDoor.I
open Go.ChangeShapes Go.WideShapes Go.ChangeAt Go.RowKit Go.PlainAid
set_option linter.unusedSimpArgs false
set_option linter.unusedVariables false
def ciB (i : In) : Bool := ciE i != 0
def alV (L : List In) : Bool := !L.any ciB
theorem any_take {α : Type} {p : α → Bool} {l : List α} {k : Nat} {x : α} (h : l[k]? = some x) : (l.take (k + 1)).any p = ((l.take k).any p || p x) := by
 have : l.take (k + 1) = l.take k ++ [x] := by rw [List.take_add_one, h]; rfl
 rw [this, List.any_append]; simp
theorem any_of {α : Type} {p : α → Bool} {l : List α} {k : Nat} {x : α} (h : l[k]? = some x) (hp : p x = true) : l.any p = true := List.any_eq_true.2 ⟨x, List.mem_of_getElem? h, hp⟩
set_option maxRecDepth 100000 in
set_option maxHeartbeats 4000000 in
theorem avc_any (i : In) (w : World) (hok : i.ok w w.heap.size) : Calls Tryz.prog 102 #[(Value.agg #[Value.int IntKind.i64 (In.op i), Value.int IntKind.i64 (In.a i), Value.int IntKind.i64 (In.b i), Value.int IntKind.i64 (In.t i), Value.slice (In.kA i) (In.kn i) (In.kc i), Value.slice (In.tA i) (In.tn i) (In.tc i), Value.string (In.r1 i), Value.string (In.r2 i), Value.string (In.r3 i), Value.string (In.s i)])] w fun e w' => e = .returned (.bool (ciB i)) ∧ Below w.heap.size w w' := by
 have hB : Below w.heap.size w w := Below.refl _ _
 have OK := Lib.hid hok
 have HC := Lib.hid (show (ciE i != 0) = ciB i from rfl)
 obtain ⟨r, hr⟩ : ∃ r, ciE i = r := ⟨_, rfl⟩
 rw [hr] at HC
 rw [← HC.out]
 have HR := Lib.hid hr
 clear hok hr
 go_enter Tryz.func102, Tryz.ntmps102
 go_upto_region 1 with fail
 have R := World.alloc_heap_new w (.cells #[.int .i64 i.op, .int .i64 i.a, .int .i64 i.b, .int .i64 i.t, .slice i.kA i.kn i.kc, .slice i.tA i.tn i.tc, .string i.r1, .string i.r2, .string i.r3, .string i.s] 50)
 replace hB := below_al hB (.cells #[.int .i64 i.op, .int .i64 i.a, .int .i64 i.b, .int .i64 i.t, .slice i.kA i.kn i.kc, .slice i.tA i.tn i.tc, .string i.r1, .string i.r2, .string i.r3, .string i.s] 50)
 generalize w.alloc (.cells #[.int .i64 i.op, .int .i64 i.a, .int .i64 i.b, .int .i64 i.t, .slice i.kA i.kn i.kc, .slice i.tA i.tn i.tc, .string i.r1, .string i.r2, .string i.r3, .string i.s] 50) = W1 at R hB ⊢
 obtain ⟨r0, r1, r2, r3, r4, r5, r6, r7, r8, r9⟩ := ten_cells R
 have y1 := lt_heap R
 replace R := Lib.hid R
 have OK1 := Lib.hid (OK.out.up hB)
 go_wp2_with (go_at_call 59; refine (chk_any i _ OK1.out).mono ?_; rintro e w2 ⟨rfl, hb2⟩; rw [HR.out])
 go_ret
 exact ⟨rfl, below_on hB hb2⟩
def IxRet (b : Bool) (w : World) (e : Ending) (w' : World) : Prop := ∃ r : Int, e = .returned (.int .i64 r) ∧ (decide (0 ≤ r)) = b ∧ Below w.heap.size w w'
set_option maxRecDepth 100000 in
set_option maxHeartbeats 4000000 in
theorem ixi_any {A : Option Addr} {n c : Nat} {L : List In} (hn : L.length = n) (hN : n ≤ 1000000) (w : World) (hp : Ins w w.heap.size A L) :
  Calls Tryz.prog 143 #[.slice A n c, .func (.func 102) #[] #[]] w (IxRet (L.any ciB) w) := by
 have HP := Lib.hid hp
 have HN := Lib.hid hn
 have hen : Enters Tryz.prog 102 := enters_of Tryz.func102 (by kernel_rfl) rfl
 have he2 : ∀ (args : Array Value) (w : World), (callFunc 102 args).run Tryz.prog w = .ok (.enter 102 args) w := hen
 clear hp hn
 go_enter Tryz.func143, Tryz.ntmps143
 go_wp2
 go_loopw [8] (fun z wr => ∃ k : Nat, k ≤ n ∧ z = .int .i64 k ∧ (L.take k).any ciB = false ∧ Below w.heap.size w wr) (fun z _ => n - (intOf z).toNat)
 case atStart => exact ⟨0, Nat.zero_le _, rfl, rfl, Below.refl _ _⟩
 case round =>
  obtain ⟨k, hk, rfl, hall, hb⟩ := hrel
  have HALL := Lib.hid hall
  have HB := Lib.hid hb
  have HPr := Lib.hid (HP.out.up hb)
  clear hall hb
  by_cases hlt : k < n
  ·
   obtain ⟨i, hi⟩ := get_someF (l := L) (k := k) (by rw [HN.out]; exact hlt)
   rcases HPr.out with h0 | ⟨g, o, rfl, hg, hcell⟩
   ·
    rw [h0] at hi; simp at hi
   ·
    obtain ⟨iok, a0, a1, a2, a3, a4, a5, a6, a7, a8, a9⟩ := hcell k _ hi
    have IOK := Lib.hid iok
    have HAT := Lib.hid (any_take (p := ciB) hi)
    have HOF := Lib.hid (any_of (p := ciB) hi)
    have hk0 : (0 : Int) ≤ (k : Int) := by omega
    have hk1 : (k : Int) < (n : Int) := by omega
    clear hcell iok hi
    cases hc : ciB i with
    | true =>
     have HC := Lib.hid hc
     clear hc
     go_wp2_with (first | (go_at_call 102; refine (avc_any i _ IOK.out).mono ?_; rintro e w2 ⟨rfl, hb2⟩; rw [HC.out]) | (go_at_fn 102; refine (avc_any i _ IOK.out).mono ?_; rintro e w2 ⟨rfl, hb2⟩; rw [HC.out]))
     go_ret
     exact ⟨k, rfl, by rw [HOF.out HC.out]; simp, below_on HB.out hb2⟩
    | false =>
     have HC := Lib.hid hc
     clear hc
     go_wp2_with (first | (go_at_call 102; refine (avc_any i _ IOK.out).mono ?_; rintro e w2 ⟨rfl, hb2⟩; rw [HC.out]) | (go_at_fn 102; refine (avc_any i _ IOK.out).mono ?_; rintro e w2 ⟨rfl, hb2⟩; rw [HC.out]))
     exact ⟨⟨k + 1, hlt, by go_num, by rw [HAT.out, HALL.out, HC.out]; rfl, below_on HB.out hb2⟩, by simp [intOf]; omega⟩
  ·
   obtain rfl : n = k := by omega
   go_wp2
   go_ret
   exact ⟨-1, rfl, by have h9 := HALL.out; rw [List.take_of_length_le (by rw [HN.out]; exact Nat.le_refl _)] at h9; rw [h9]; decide, HB.out⟩
set_option maxRecDepth 100000 in
set_option maxHeartbeats 4000000 in
theorem cfi_any {A : Option Addr} {n c : Nat} {L : List In} (hn : L.length = n) (hN : n ≤ 1000000) (w : World) (hp : Ins w w.heap.size A L) :
  Calls Tryz.prog 101 #[.slice A n c, .func (.func 102) #[] #[]] w fun e w' => e = .returned (.bool (L.any ciB)) ∧ Below w.heap.size w w' := by
 have K := Lib.hid (ixi_any (c := c) hn hN w hp)
 clear hn hp
 generalize L.any ciB = b at K ⊢
 go_enter Tryz.func101, Tryz.ntmps101
 go_wp2_with (go_at_call 143; refine K.out.mono ?_; rintro e w2 ⟨r, rfl, hr, hb2⟩)
 go_ret
 exact ⟨by rw [← hr]; first | rfl | simp, hb2⟩
set_option maxRecDepth 100000 in
set_option maxHeartbeats 4000000 in
theorem av_any {A : Option Addr} {n c : Nat} {L : List In} (hn : L.length = n) (hN : n ≤ 1000000) (w : World) (hp : Ins w w.heap.size A L) :
  Calls Tryz.prog 58 #[.slice A n c] w fun e w' => e = .returned (.bool (alV L)) ∧ Below w.heap.size w w' := by
 have K := Lib.hid (cfi_any (c := c) hn hN w hp)
 unfold alV
 clear hn hp
 generalize L.any ciB = b at K ⊢
 go_enter Tryz.func58, Tryz.ntmps58
 go_wp2_with (go_at_call 101; refine K.out.mono ?_; rintro e w2 ⟨rfl, hb2⟩)
 go_ret
 exact ⟨rfl, hb2⟩
end Go.Proofs.YtalejaklggnnpaaGreatDoor.I
/- Layer 8: sizes and offsets, pure. -/
namespace Go.Proofs.YtalejaklggnnpaaGreatDoor.I
set_option linter.unusedSimpArgs false
set_option linter.unusedVariables false
/-- an instruction's size -/
def szV (i : In) : Int := if i.op = 53 then 9 + 2 * (i.tn : Int) else if i.op = 54 then 5 + 6 * (i.kn : Int) else sizeV i.op
/-- the offset of the k-th -/
def atN (L : List In) : Nat → Int
 | 0 => 0
 | k + 1 => atN L k + (match L[k]? with | some i => szV i | none => 0)
theorem atN_succ {L : List In} {k : Nat} {i : In} (h : L[k]? = some i) : atN L (k + 1) = atN L k + szV i := by
 show atN L k + (match L[k]? with | some i => szV i | none => 0) = _
 rw [h]
/-- the first fault of an instruction -/
def chkE : List In → Int
 | [] => 0
 | i :: r => if ciE i = 0 then chkE r else ciE i
theorem chkE_ok : ∀ {L : List In}, (∀ (j : Nat) (i : In), L[j]? = some i → ciE i = 0) → chkE L = 0
 | [], _ => rfl
 | i :: r, h => by
  unfold chkE
  rw [if_pos (h 0 i rfl)]
  exact chkE_ok fun j i hj => h (j + 1) i hj
theorem chkE_bad : ∀ {L : List In} {k : Nat} {i : In}, (∀ (j : Nat) (i : In), j < k → L[j]? = some i → ciE i = 0) → L[k]? = some i → ciE i ≠ 0 → chkE L = ciE i
 | [], k, i, _, h, _ => by simp at h
 | x :: r, 0, i, _, h, hn => by
  obtain rfl : x = i := by simpa using h
  unfold chkE
  rw [if_neg hn]
 | x :: r, k + 1, i, hj, h, hn => by
  unfold chkE
  rw [if_pos (hj 0 x (by omega) rfl)]
  exact chkE_bad (fun j i hjk hi => hj (j + 1) i (by omega) hi) h hn
theorem chkE_all : ∀ {L : List In}, chkE L = 0 → ∀ (j : Nat) (i : In), L[j]? = some i → ciE i = 0
 | [], _, j, i, h => by simp at h
 | x :: r, h, j, i, hj => by
  unfold chkE at h
  by_cases hx : ciE x = 0
  ·
   rw [if_pos hx] at h
   cases j with
   | zero =>
    obtain rfl : x = i := by simpa using hj
    exact hx
   | succ j => exact chkE_all h j i hj
  ·
   rw [if_neg hx] at h; exact absurd h hx
def ofE (L : List In) : Int := if chkE L = 0 then (if 1000 < L.length then 5 else if 20000 < atN L L.length then 8 else 0) else chkE L
/-- the offsets of the first k -/
def ofN (L : List In) (k : Nat) : List Int := (List.range k).map (atN L)
theorem ofN_succ (L : List In) (k : Nat) : ofN L (k + 1) = ofN L k ++ [atN L k] := by unfold ofN; rw [List.range_succ, List.map_append]; rfl
def ofP (L : List In) : List Int := if ofE L = 0 then ofN L (L.length + 1) else []
theorem of_1 {L : List In} (h : chkE L ≠ 0) : ofE L = chkE L ∧ ofP L = [] := by
 have : ofE L = chkE L := if_neg h
 exact ⟨this, by unfold ofP; rw [this, if_neg h]⟩
theorem of_3 {L : List In} (h : chkE L = 0) (h1 : ¬ 1000 < L.length) (h2 : 20000 < atN L L.length) : ofE L = 8 ∧ ofP L = [] := by
 have : ofE L = 8 := by unfold ofE; rw [if_pos h, if_neg h1, if_pos h2]
 exact ⟨this, by unfold ofP; rw [this]; rfl⟩
theorem of_4 {L : List In} (h : chkE L = 0) (h1 : ¬ 1000 < L.length) (h2 : ¬ 20000 < atN L L.length) : ofE L = 0 ∧ ofP L = ofN L (L.length + 1) := by
 have : ofE L = 0 := by unfold ofE; rw [if_pos h, if_neg h1, if_neg h2]
 exact ⟨this, by unfold ofP; rw [this]; rfl⟩
theorem sizeV_bd {o : Int} (h : 0 ≤ kindV o) : o = 53 ∨ o = 54 ∨ (1 ≤ sizeV o ∧ sizeV o ≤ 9) := by
 rcases kind_bd o with k | k | k | k | k | k | k | k | k
 ·
  omega
 ·
  right; right; unfold sizeV; rw [k]; simp
 ·
  right; right; unfold sizeV; rw [k]; simp
 ·
  right; right; unfold sizeV; rw [k]; simp
 ·
  right; right; unfold sizeV; rw [k]; simp
 ·
  right; right; unfold sizeV; rw [k]; simp
 ·
  right; right; unfold sizeV; rw [k]; simp
 ·
  exact Or.inl (kind6.1 k)
 ·
  exact Or.inr (Or.inl (kind7.1 k))
/-- a valid instruction has a small size -/
theorem szV_bd {i : In} (h : ciE i = 0) : 1 ≤ szV i ∧ szV i ≤ 400 ∧ (i.op = 53 → i.tn ≤ 64) ∧ (i.op = 54 → i.kn ≤ 64 ∧ i.tn = i.kn) := by
 have hk : 0 ≤ kindV i.op := by
  by_cases h1 : kindV i.op < 0
  ·
   unfold ciE at h; rw [if_pos h1] at h; omega
  ·
   omega
 by_cases h3 : i.op = 53
 ·
  have k6 := kind6.2 h3
  have ht : i.tn ≤ 64 := by
   unfold ciE at h
   rw [k6] at h
   simp at h
   have : tsE i = 0 := by
    split at h
    ·
     omega
    ·
     split at h
     ·
      omega
     ·
      exact h
   unfold tsE at this
   by_cases h9 : i.tn = 0 ∨ 64 < i.tn
   ·
    rw [if_pos h9] at this; simp at this
   ·
    omega
  exact ⟨by unfold szV; rw [if_pos h3]; omega, by unfold szV; rw [if_pos h3]; omega, fun _ => ht, fun h4 => by omega⟩
 ·
  by_cases h4 : i.op = 54
  ·
   have k7 := kind7.2 h4
   have ht : i.kn ≤ 64 ∧ i.tn = i.kn := by
    unfold ciE at h
    rw [k7] at h
    simp at h
    have : ksE i = 0 := by
     split at h
     ·
      omega
     ·
      split at h
      ·
       omega
      ·
       exact h
    unfold ksE at this
    by_cases h9 : 64 < i.kn ∨ i.tn ≠ i.kn
    ·
     rw [if_pos h9] at this; simp at this
    ·
     omega
   exact ⟨by unfold szV; rw [if_neg h3, if_pos h4]; omega, by unfold szV; rw [if_neg h3, if_pos h4]; omega, fun h => absurd h h3, fun _ => ht⟩
  ·
   have := sizeV_bd hk
   exact ⟨by unfold szV; rw [if_neg h3, if_neg h4]; omega, by unfold szV; rw [if_neg h3, if_neg h4]; omega, fun h => absurd h h3, fun h => absurd h h4⟩
theorem atN_bd {L : List In} : ∀ k, k ≤ L.length → (∀ (j : Nat) (i : In), j < k → L[j]? = some i → ciE i = 0) → (k : Int) ≤ atN L k ∧ atN L k ≤ 400 * k
 | 0, _, _ => ⟨by simp [atN], by simp [atN]⟩
 | k + 1, hk, h => by
  have ih := atN_bd k (by omega) fun j i hj => h j i (by omega)
  have hi := List.getElem?_eq_getElem (show k < L.length by omega)
  have hb := szV_bd (h k _ (by omega) hi)
  rw [atN_succ hi]
  constructor <;> (push_cast; omega)
end Go.Proofs.YtalejaklggnnpaaGreatDoor.I
