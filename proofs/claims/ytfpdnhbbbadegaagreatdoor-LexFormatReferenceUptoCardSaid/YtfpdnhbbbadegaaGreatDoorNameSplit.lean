/- The pieces of a string between slashes, as strings.SplitSeq hands them to a loop: the iterator's contract for a loop that stops at the first piece that is no identifier. -/
import Derived.RangeFuncNested
import Derived.RangeFuncBound
import Derived.RangeFuncCalls
import Derived.RangeFuncLeaves
import Derived.Shelf.Abstract
import Derived.Shelf.RegionOpen
import Derived.WalkKit
import Derived.OwnWalkIn
import Derived.TacticsInMore
import Derived.LoopNIn
import Derived.LoopIn
import Derived.Test.YtfpdnhbbbadegaaGreatDoorNameIdx
namespace Go.Proofs.YtfpdnhbbbadegaaGreatDoor
open Go.ChangeShapes Go.WideShapes Go.ChangeAt Go.RowKit Go.PlainAid Go.Shelf
set_option linter.unusedSimpArgs false
set_option linter.unusedVariables false
attribute [local go_sem] Oper.semAt_some

/-- the three boxes of the iterator: what is left, the separator, the bytes kept of it -/
structure Bx (bs bp bv : Nat) (r : ByteArray) (W : World) : Prop where
  cs : W.cell? ⟨bs, 0, none⟩ = some (.string r)
  fs : W.frozen? ⟨bs, 0, none⟩ = false
  cp : W.cell? ⟨bp, 0, none⟩ = some (.string slash)
  cv : W.cell? ⟨bv, 0, none⟩ = some (.int .i64 0)

theorem Bx.set {bs bp bv : Nat} {r : ByteArray} {W : World} (h : Bx bs bp bv r W) (hp : bs ≠ bp) (hv : bs ≠ bv) (r' : ByteArray) : Bx bs bp bv r' (W.setCell ⟨bs, 0, none⟩ (.string r')) :=
  ⟨World.cell?_setCell_same' _ _ _ (by rw [h.cs]; rfl), by rw [World.frozen?_setCell]; exact h.fs,
   (World.cell?_of_block (Below.heap_setCell W ⟨bs, 0, none⟩ _ bp (Ne.symm hp))).trans h.cp, (World.cell?_of_block (Below.heap_setCell W ⟨bs, 0, none⟩ _ bv (Ne.symm hv))).trans h.cv⟩

def leftIn (bs : Nat) (W : World) : Nat := match W.cell? ⟨bs, 0, none⟩ with
  | some (.string r) => r.size
  | _ => 0
theorem leftIn_eq {bs bp bv : Nat} {r : ByteArray} {W : World} (h : Bx bs bp bv r W) : leftIn bs W = r.size := by
  unfold leftIn; rw [h.cs]

set_option maxRecDepth 100000 in
set_option maxHeartbeats 2000000 in
theorem split_in (F : Fence) (n : Nat) (hF : F.fn 101) (hF2 : F.fn 75) (hI : ∀ (s : ByteArray) (w : World), CallsIn F (n - 1) Tryz.prog 75 #[.string s, .string slash] w fun e w' => e = .returned (.int .i64 (Lib.indexByte s.data.toList 47)) ∧ w = w')
    (hro : F.round = none) (hn : 1 ≤ n) (l bs bp bv : Nat) (hsp : bs ≠ bp) (hsv : bs ≠ bv) (J Jx : World → Prop)
    (hJ : ∀ r r' W, J W → Bx bs bp bv r W → J (W.setCell ⟨bs, 0, none⟩ (.string r')))
    (hY : ∀ (r x : ByteArray) (W : World), x.size ≤ 9223372036854775807 → J W → Bx bs bp bv r W → YieldAt F (n - 1) Tryz.prog l #[.string x] W fun e W' =>
      (e = .returned (.bool true) ∧ idB x = true ∧ J W' ∧ Bx bs bp bv r W') ∨ (e = .returned (.bool false) ∧ idB x = false ∧ Jx W'))
    (s : ByteArray) (hs : s.size ≤ 9223372036854775807) (W : World) (hB : Bx bs bp bv s W) (h0 : J W) :
    CallsIn F n Tryz.prog 101 #[.func (.yield l) #[] #[], .pointer (some ⟨bp, 0, none⟩), .pointer (some ⟨bs, 0, none⟩), .pointer (some ⟨bv, 0, none⟩)] W fun e W' =>
      (∃ v, e = .returned v) ∧ ((clsL s.data.toList = true ∧ J W') ∨ (clsL s.data.toList = false ∧ Jx W')) := by
  refine callsIn_of_wp Tryz.func101 rfl hF ?_ hro
  simp only [Tryz.ntmps101, List.size_toArray, List.length_cons, List.length_nil, Nat.reduceAdd, Nat.reduceSub, Array.replicate_succ, Array.replicate_zero, List.push_toArray, List.append_toArray, List.nil_append, List.cons_append]
  have hcp := hB.cp
  have hz : slash.size = 1 := rfl
  gi_wp2
  clear hcp
  gi_loopw [] (fun wr => ∃ r : ByteArray, Bx bs bp bv r wr ∧ J wr ∧ clsL r.data.toList = clsL s.data.toList ∧ r.size ≤ 9223372036854775807) (fun wr => leftIn bs wr)
  case atStart => exact ⟨s, hB, h0, rfl, hs⟩
  case round =>
    clear hB h0
    obtain ⟨r, hb, hj, hv, hr⟩ := hrel
    have hcs := hb.cs
    have hcp := hb.cp
    have hcv := hb.cv
    have hfs := hb.fs
    have hv' := Lib.hid hv
    clear hv
    rcases index_cases r.data.toList with ⟨hi, hno⟩ | ⟨k, hi, hk, hcut, hno⟩
    · have hend : clsL s.data.toList = idB r := by rw [← hv'.out]; exact cls_no _ hno
      have hend' := Lib.hid hend
      clear hend hno
      obtain ⟨fn, tmps, assign, body, hy, hR⟩ := hY r r wr hr hj hb
      gi_wp2_with (gi_at_call 75; refine (hI _ _).mono ?_; rintro e w' ⟨rfl, rfl⟩)
      refine hR.mono ?_
      rintro e W3 (⟨rfl, hi3, hj3, hb3⟩ | ⟨rfl, hi3, hj3⟩)
      · gi_wp2
        go_end0
        exact ⟨⟨_, rfl⟩, .inl ⟨hend'.out.trans hi3, hj3⟩⟩
      · gi_wp2
        go_end0
        exact ⟨⟨_, rfl⟩, .inr ⟨hend'.out.trans hi3, hj3⟩⟩
    · have hkr : k < r.size := by rw [← len_data]; exact hk
      have hx : (r.extract 0 k).size ≤ 9223372036854775807 := by rw [ByteArray.size_extract]; omega
      have hd1 : (r.extract 0 k).data.toList = r.data.toList.take k := by rw [data_extract]; simp
      have hd2 : (r.extract (k + 1) r.size).data.toList = r.data.toList.drop (k + 1) := by
        rw [data_extract, List.take_of_length_le (by rw [List.length_drop, len_data]; omega)]
      have hcut2 : clsL s.data.toList = (idB (r.extract 0 k) && clsL (r.extract (k + 1) r.size).data.toList) := by
        rw [← hv'.out, hd2, show idB (r.extract 0 k) = okL (r.data.toList.take k) by unfold idB; rw [hd1]]
        conv => lhs; rw [hcut]
        exact cls_cut _ _ hno
      have hcut' := Lib.hid hcut2
      clear hcut hcut2 hno hd1 hd2
      obtain ⟨fn, tmps, assign, body, hy, hR⟩ := hY r (r.extract 0 k) wr hx hj hb
      gi_wp2_with (gi_at_call 75; refine (hI _ _).mono ?_; rintro e w' ⟨rfl, rfl⟩)
      refine hR.mono ?_
      rintro e W3 (⟨rfl, hi3, hj3, hb3⟩ | ⟨rfl, hi3, hj3⟩)
      · have hcs3 := hb3.cs
        have hcp3 := hb3.cp
        have hfs3 := hb3.fs
        gi_wp2
        have hb4 : Bx bs bp bv (r.extract (k + 1) r.size) (W3.setCell ⟨bs, 0, none⟩ (.string (r.extract (k + 1) r.size))) := hb3.set hsp hsv _
        refine ⟨⟨_, hb4, hJ _ _ _ hj3 hb3, by rw [hcut'.out, hi3]; rfl, by rw [ByteArray.size_extract]; omega⟩, ?_⟩
        rw [leftIn_eq hb4, leftIn_eq hb, ByteArray.size_extract]; omega
      · gi_wp2
        refine bodyPost_ret (results_none rfl _ _ _) rfl ?_
        exact ⟨⟨_, rfl⟩, .inr ⟨by rw [hcut'.out, hi3]; rfl, hj3⟩⟩

end Go.Proofs.YtfpdnhbbbadegaaGreatDoor
