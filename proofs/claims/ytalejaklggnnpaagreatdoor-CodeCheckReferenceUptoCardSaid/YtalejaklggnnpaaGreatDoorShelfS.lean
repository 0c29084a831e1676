import Derived.Shelf.Strings.Builder1
import Derived.Shelf.Small.Strs
import Derived.Shelf.Strings.BuilderF
import Derived.Shelf.Strings.BuilderK
import Derived.Shelf.Strings.Search1
import Derived.Shelf.Strings.Search2
import Derived.Shelf.Strings.Search3
import Derived.Shelf.LaysM
import Derived.Shelf.Strings.Shaped
import Derived.Shelf.Strings.Prefix
import Derived.Shelf.Unicode.DecodeSlow
import Derived.Ground.Names2Prog
import Derived.Shelf.Slices.SearchI
import Derived.Shelf.Slices.Empties
import Derived.Ground.SlgfProg
import Derived.Shelf.SlicesE.IndexFunc
import Derived.Test.YtalejaklggnnpaaGreatDoorProg
import Derived.Test.YtalejaklggnnpaaGreatDoorIn
/-
 DERIVED: THE SHELF's CONTRACTS AT THIS DUMP, IN PLAIN WORDS (tools/lay-plain.mjs out of 'TryzShelf.lean', which tools/lay-shelf.mjs wrote): THE SAME DECLARATIONS UNDER THE SAME NAMES: 'import', 'namespace', 'open', 'def', 'theorem' AND NOTHING ELSE: no command of the shelf's: FOR A HAND-IN. Each laying: the table of numbers ('.._ren') and one theorem, a field a fact of the dump's own or the kernel's comparison; each contract: ONE APPLICATION.
-/
namespace Go.Proofs
open Go.Shelf
def Tryz.lays137_ren : Go.Shelf.Ren := ⟨fun | 137 => 169 | 217 => 186 | 266 => 193 | n => n, fun | 9 => 9 | 5 => 5 | 3 => 3 | n => n, fun | n => n⟩
theorem Tryz.lays137 : Go.Proofs.Lays.n137 Tryz.prog Tryz.lays137_ren := {
 mixed := by kernel_rfl
 f137 := Tryz.func169.trans (congrArg some (by kernel_rfl))
 f217 := Tryz.func186.trans (congrArg some (by kernel_rfl))
 f266 := Tryz.func193.trans (congrArg some (by kernel_rfl))
 t3 := Tryz.underlying3
 a3 := Tryz.isAgg3
 z3 := Tryz.sizeOf3
 v3 := Tryz.zeroValue3
 t5 := Tryz.underlying5
 a5 := Tryz.isAgg5
 z5 := Tryz.sizeOf5
 v5 := Tryz.zeroValue5
 t9 := Tryz.underlying9
 a9 := Tryz.isAgg9
 z9 := Tryz.sizeOf9
 v9 := Tryz.zeroValue9 }
open Go.RowKit in
/-- strings.IndexByte: "IndexByte returns the index of the first instance of c in s, or -1 if c is not present in s.": IT RETURNS 'Lib.indexByte s c'; the world is as it was. (LAID: no walk: one application.) -/
theorem Tryz.strings_IndexByte (s : ByteArray) (c : Int) (w : World) :
  Calls Tryz.prog 169 #[.string s, .int .u8 c] w fun e w' => e = .returned (.int .i64 (Lib.indexByte s.data.toList c.toNat.toUInt8)) ∧ w' = w := Any.strings_IndexByte Tryz.lays137 s c w
def Tryz.lays99_ren : Go.Shelf.Ren := ⟨fun | 99 => 113 | 206 => 154 | n => n, fun | 9 => 9 | 4 => 4 | 3 => 3 | n => n, fun | n => n⟩
theorem Tryz.lays99 : Go.Proofs.Lays.n99 Tryz.prog Tryz.lays99_ren := {
 mixed := by kernel_rfl
 f99 := Tryz.func113.trans (congrArg some (by kernel_rfl))
 f206 := Tryz.func154.trans (congrArg some (by kernel_rfl))
 t3 := Tryz.underlying3
 a3 := Tryz.isAgg3
 z3 := Tryz.sizeOf3
 v3 := Tryz.zeroValue3
 t4 := Tryz.underlying4
 a4 := Tryz.isAgg4
 z4 := Tryz.sizeOf4
 v4 := Tryz.zeroValue4
 t9 := Tryz.underlying9
 a9 := Tryz.isAgg9
 z9 := Tryz.sizeOf9
 v9 := Tryz.zeroValue9 }
open Go.RowKit Go.Lib in
/-- strings.HasPrefix: "HasPrefix reports whether the string s begins with prefix.": IT RETURNS 'Lib.hasPrefix s prefix'; the world is as it was. (LAID: no walk: one application.) -/
theorem Tryz.strings_HasPrefix (s p : ByteArray) (w : World) :
  Calls Tryz.prog 113 #[.string s, .string p] w fun e w' => e = .returned (.bool (Lib.hasPrefix s.data.toList p.data.toList)) ∧ w' = w := Any.strings_HasPrefix Tryz.lays99 s p w
def Tryz.laysSlH8_f145_ren : Go.Shelf.Ren := ⟨fun | 8 => 145 | 6 => 168 | n => n, fun | 22 => 42 | 23 => 3 | 25 => 56 | 4 => 4 | 3 => 3 | 0 => 0 | n => n, fun | n => n⟩
theorem Tryz.laysSlH8_f145 : Go.Proofs.SlLaysH.n8 Tryz.prog Tryz.laysSlH8_f145_ren := {
 mixed := by kernel_rfl
 f6 := ⟨Tryz.f168.name, by decide, Tryz.func168.trans (congrArg some (by kernel_rfl))⟩
 f8 := ⟨Tryz.f145.name, by decide, Tryz.func145.trans (congrArg some (by kernel_rfl))⟩
 t0 := Tryz.underlying0
 a0 := Tryz.isAgg0
 z0 := Tryz.sizeOf0
 v0 := Tryz.zeroValue0
 t3 := Tryz.underlying3
 a3 := Tryz.isAgg3
 z3 := Tryz.sizeOf3
 v3 := Tryz.zeroValue3
 t4 := Tryz.underlying4
 a4 := Tryz.isAgg4
 z4 := Tryz.sizeOf4
 v4 := Tryz.zeroValue4
 t22 := Tryz.underlying42
 a22 := Tryz.isAgg42
 z22 := Tryz.sizeOf42
 v22 := Tryz.zeroValue42
 a23 := Tryz.isAgg3
 z23 := Tryz.sizeOf3
 t25 := Tryz.underlying56
 a25 := Tryz.isAgg56
 z25 := Tryz.sizeOf56
 v25 := Tryz.zeroValue56 }
open Go.RowKit Go.Lib in
/-- slices.ContainsFunc: "ContainsFunc reports whether at least one element e of s satisfies f(e).": ITS CALLEE slices.IndexFunc IS MET BY ITS OWN CONTRACT. (LAID AT THE INSTANCE 'slices.ContainsFunc[[]int,int]': no walk: one application.) -/
theorem Tryz.slices_ContainsFunc {α : Type} [Inhabited α] (enc : α → Value) (p : α → Bool) (g : Nat) (lb : Array Value) (eg : ∀ args w, (callFunc g args).run Tryz.prog w = .ok (.enter g args) w) (b off n c : Nat) (zs : List α) (w : World) (hp : PredAt Tryz.prog g lb enc p w) (hz : n ≤ zs.length) (hbig : n ≤ 9223372036854775807) (hc : ∀ j, j < zs.length → w.cell? ⟨b, off + j, none⟩ = some (enc zs[j]!)) :
  Calls Tryz.prog 145 #[.slice (some ⟨b, off, none⟩) n c, .func (.func g) #[] lb] w fun e w' => e = .returned (.bool ((zs.take n).any p)) ∧ ∃ q, w' = w.drewN q := AnyE.slices_ContainsFunc Tryz.laysSlH8_f145 enc p g lb eg b off n c zs w hp hz hbig hc
open Go.RowKit Go.Lib in
/-- The same at a slice of length 0, a nil one too. (LAID AT THE INSTANCE 'slices.ContainsFunc[[]int,int]': no walk: one application.) -/
theorem Tryz.slices_ContainsFunc_empty {α : Type} [Inhabited α] (a : Option Addr) (c : Nat) (fv : Value) (w : World) :
  Calls Tryz.prog 145 #[.slice a 0 c, fv] w fun e w' => e = .returned (.bool false) ∧ w' = w := AnyE.slices_ContainsFunc_empty Tryz.laysSlH8_f145 a c fv w
end Go.Proofs
/- Layer 8: Check, in the package. -/
namespace Go.Proofs.YtalejaklggnnpaaGreatDoor.I
open Go.ChangeShapes Go.WideShapes Go.ChangeAt Go.RowKit Go.PlainAid
set_option linter.unusedSimpArgs false
set_option linter.unusedVariables false
theorem is32_any (n : Int) (w : World) : Calls Tryz.prog 146 #[.int .i64 n] w fun e w' => e = .returned (.bool (k32 n)) ∧ w = w' := by
 go_enter Tryz.func146, Tryz.ntmps146
 go_wp2
 go_ret
 exact ⟨ret_bool (by rw [Bool.eq_iff_iff]; unfold k32; simp only [beq_iff_eq, decide_eq_true_iff]; unfold wrap64 wrap32; omega), rfl⟩
theorem bdt_any (n : Int) (w : World) : Calls Tryz.prog 144 #[.int .i64 n] w fun e w' => e = .returned (.bool (btB n)) ∧ w = w' := by
 go_enter Tryz.func144, Tryz.ntmps144
 go_wp2
 all_goals go_ret
 all_goals exact ⟨ret_bool (by simp_all [btB] <;> omega), rfl⟩
def tliE (b : Bool) : Int := if b = true then 8 else 0
theorem tl_any (b : Bool) (w : World) : Calls Tryz.prog 104 #[.bool b] w fun e w' => e = .returned (.int .i64 (tliE b)) ∧ w = w' := by
 go_enter Tryz.func104, Tryz.ntmps104
 cases b
 ·
  go_wp2
  go_ret
  exact ⟨rfl, rfl⟩
 ·
  go_wp2
  go_ret
  exact ⟨rfl, rfl⟩
set_option maxRecDepth 100000 in
set_option maxHeartbeats 2000000 in
theorem cks_any (i : In) (w : World) (hok : i.ok w w.heap.size) : Calls Tryz.prog 147 #[(Value.agg #[Value.int IntKind.i64 (In.op i), Value.int IntKind.i64 (In.a i), Value.int IntKind.i64 (In.b i), Value.int IntKind.i64 (In.t i), Value.slice (In.kA i) (In.kn i) (In.kc i), Value.slice (In.tA i) (In.tn i) (In.tc i), Value.string (In.r1 i), Value.string (In.r2 i), Value.string (In.r3 i), Value.string (In.s i)])] w fun e w' => e = .returned (.int .i64 (ksE i)) ∧ Below w.heap.size w w' := by
 have hB : Below w.heap.size w w := Below.refl _ _
 have hkn := hok.1
 have hkc := hok.2.2.1
 have hkc1 := hok.2.1
 have hrow := Lib.hid hok.2.2.2.1
 clear hok
 have ha := all_iff k32 i.ks
 have hi := inc_iff i.ks
 rw [hkn] at ha hi
 have HS := Lib.hid (show ksE i = (if 64 < i.kn ∨ i.tn ≠ i.kn then 5 else if i.ks.all k32 = true then (if incB i.ks = true then 0 else 4) else 8) from rfl)
 generalize ksE i = K at HS ⊢
 obtain ⟨op, a, b, t, kA, kn, kc, ks, tA, tn, tc, ts, ra, rb, rc, s⟩ := i
 simp only at hkn hkc hkc1 hrow ha hi HS ⊢
 have HA := Lib.hid ha
 have HI := Lib.hid hi
 have HK := Lib.hid hkn
 clear ha hi hkn
 go_enter Tryz.func147, Tryz.ntmps147
 go_upto_region 1 with fail
 have R := World.alloc_heap_new w (.cells #[.int .i64 op, .int .i64 a, .int .i64 b, .int .i64 t, .slice kA kn kc, .slice tA tn tc, .string ra, .string rb, .string rc, .string s] 50)
 replace hB := below_al hB (.cells #[.int .i64 op, .int .i64 a, .int .i64 b, .int .i64 t, .slice kA kn kc, .slice tA tn tc, .string ra, .string rb, .string rc, .string s] 50)
 generalize w.alloc (.cells #[.int .i64 op, .int .i64 a, .int .i64 b, .int .i64 t, .slice kA kn kc, .slice tA tn tc, .string ra, .string rb, .string rc, .string s] 50) = W1 at R hB ⊢
 obtain ⟨r0, r1, r2, r3, r4, r5, r6, r7, r8, r9⟩ := ten_cells R
 have y1 := lt_heap R
 replace R := Lib.hid R
 replace hrow := Lib.hid (hrow.out.below hB)
 by_cases h1 : 64 < kn ∨ tn ≠ kn
 ·
  have hs := HS.out
  rw [if_pos h1] at hs
  replace HS := Lib.hid hs
  clear hs
  rcases h1 with h1 | h1
  ·
   go_wp2
   go_ret
   exact ⟨by rw [HS.out]; rfl, (by repeat (first | with_reducible exact hB | with_reducible exact Below.refl _ _ | with_reducible refine below_al ?_ _ | with_reducible refine below_st ?_ (by first | exact Nat.le_refl _ | exact Nat.le_add_right _ _ | (simp; omega)) _))⟩
  ·
   have h1' : ((tn : Int) != (kn : Int)) = true := by simpa using (by omega : ¬ (tn : Int) = kn)
   go_wp2
   all_goals go_ret
   all_goals exact ⟨by rw [HS.out]; rfl, (by repeat (first | with_reducible exact hB | with_reducible exact Below.refl _ _ | with_reducible refine below_al ?_ _ | with_reducible refine below_st ?_ (by first | exact Nat.le_refl _ | exact Nat.le_add_right _ _ | (simp; omega)) _))⟩
 ·
  have hs := HS.out
  rw [if_neg h1] at hs
  replace HS := Lib.hid hs
  clear hs
  obtain ⟨h1, h2⟩ : kn ≤ 64 ∧ tn = kn := by omega
  go_wp2
  go_loopw [4, 22] (fun _ v wr => ∃ k q : Nat, k ≤ kn ∧ v = .int .i64 k ∧ (∀ j, j < k → k32 (ks.getD j 0) = true) ∧ wr = W1.drewN q) (fun _ v _ => kn - (intOf v).toNat)
  case atStart => exact ⟨0, 0, Nat.zero_le _, rfl, fun j hj => absurd hj (Nat.not_lt_zero _), rfl⟩
  case round =>
   obtain ⟨k, q, hk, rfl, hall, rfl⟩ := hrel
   have HL := Lib.hid hall
   clear hall
   by_cases hlt : k < kn
   ·
    obtain ⟨g, o, rfl, hg, hc⟩ := hrow.out.at (by have := HK.out; omega)
    have hck := hc k (by have := HK.out; omega)
    clear hc
    have hk0 : (0 : Int) ≤ (k : Int) := by omega
    have hk1 : (k : Int) < (kn : Int) := by omega
    obtain ⟨x, hx⟩ : ∃ x, ks.getD k 0 = x := ⟨_, rfl⟩
    rw [hx] at hck
    have HX := Lib.hid hx
    clear hx
    cases h3 : k32 x with
    | false =>
     have hno : ¬ ks.all k32 = true := fun h => by have := HA.out.1 h k hlt; rw [HX.out, h3] at this; cases this
     go_wp2_with (go_at_call 146; refine (is32_any _ _).mono ?_; rintro e w' ⟨rfl, rfl⟩)
     go_ret
     exact ⟨by rw [HS.out, if_neg hno]; rfl, below_dr hB _⟩
    | true =>
     go_wp2_with (go_at_call 146; refine (is32_any _ _).mono ?_; rintro e w' ⟨rfl, rfl⟩)
     go_roundw
     case rel =>
      refine ⟨k + 1, q, hlt, by go_num, fun j hj => ?_, rfl⟩
      rcases (by omega : j < k ∨ j = k) with h | rfl
      ·
       exact HL.out j h
      ·
       rw [HX.out, h3]
     case measure => simp [intOf]; omega
   ·
    obtain ⟨rfl⟩ : kn = k := by omega
    have hs2 := HS.out
    rw [if_pos (HA.out.2 HL.out)] at hs2
    replace HS := Lib.hid hs2
    clear hs2 HA HL
    go_wp2
    go_loopw [5] (fun v wr => ∃ k q : Nat, 1 ≤ k ∧ (k ≤ 1 ∨ k ≤ kn) ∧ v = .int .i64 k ∧ (∀ j, 1 ≤ j → j < k → ks.getD (j - 1) 0 < ks.getD j 0) ∧ wr = W1.drewN q) (fun v _ => kn - (intOf v).toNat)
    case atStart => exact ⟨1, _, Nat.le_refl _, Or.inl (Nat.le_refl _), rfl, fun j h1 hj => absurd hj (by omega), rfl⟩
    case round =>
     obtain ⟨k, q, hk, hk', rfl, hall, rfl⟩ := hrel
     have HL := Lib.hid hall
     clear hall
     by_cases hlt : k < kn
     ·
      obtain ⟨g, o, rfl, hg, hc⟩ := hrow.out.at (by have := HK.out; omega)
      have hck := hc k (by have := HK.out; omega)
      have hcj := hc (k - 1) (by have := HK.out; omega)
      clear hc
      have hk0 : (0 : Int) ≤ (k : Int) := by omega
      have hk1 : (k : Int) < (kn : Int) := by omega
      have hj0 : (0 : Int) ≤ (k : Int) - 1 := by omega
      have hj1 : (k : Int) - 1 < (kn : Int) := by omega
      have hj2 : ((k : Int) - 1).toNat = k - 1 := by omega
      obtain ⟨x, hx⟩ : ∃ x, ks.getD k 0 = x := ⟨_, rfl⟩
      obtain ⟨y, hy⟩ : ∃ y, ks.getD (k - 1) 0 = y := ⟨_, rfl⟩
      rw [hx] at hck
      rw [hy] at hcj
      have HX := Lib.hid hx
      have HY := Lib.hid hy
      clear hx hy
      have hw1 : IntKind.i64.wrap ((k : Int) - 1) = (k : Int) - 1 := by simp [IntKind.wrap, IntKind.bits, IntKind.signed]; omega
      by_cases h3 : y < x
      ·
       go_wp2
       go_quiet (fail)
       go_wp2
       refine ⟨⟨k + 1, _, by omega, Or.inr hlt, by go_num, fun j h1 hj => ?_, rfl⟩, by simp [intOf]; omega⟩
       rcases (by omega : j < k ∨ j = k) with h | rfl
       ·
        exact HL.out j h1 h
       ·
        rw [HX.out, HY.out]; exact h3
      ·
       have hno : ¬ incB ks = true := fun h => by have := HI.out.1 h k hk hlt; rw [HX.out, HY.out] at this; exact h3 this
       go_wp2
       go_quiet (fail)
       go_wp2
       go_ret
       exact ⟨by rw [HS.out, if_neg hno]; rfl, below_dr (below_dr hB _) _⟩
     ·
      have hyes : incB ks = true := HI.out.2 fun j h1 hj => HL.out j h1 (by omega)
      go_wp2
      go_ret
      exact ⟨by rw [HS.out, if_pos hyes]; rfl, below_dr hB _⟩
end Go.Proofs.YtalejaklggnnpaaGreatDoor.I
