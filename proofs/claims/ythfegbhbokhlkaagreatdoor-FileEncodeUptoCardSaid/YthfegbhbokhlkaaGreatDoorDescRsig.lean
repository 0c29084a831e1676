/- Layer 4: the reference's ParseSignature. -/
import Derived.Test.YthfegbhbokhlkaaGreatDoorDescPsigW
namespace Go.Proofs.YthfegbhbokhlkaaGreatDoor
open Go.ChangeShapes Go.WideShapes Go.ChangeAt Go.RowKit Go.PlainAid
set_option linter.unusedSimpArgs false
set_option linter.unusedVariables false

structure RInv (s : ByteArray) (w wr : World) (i : Nat) (ps : List Ty) (v : Value) : Prop where
  i1 : 1 ≤ i
  is : i ≤ s.size
  pl : ps.length + 1 ≤ i
  run : ∃ f, s.size - i < f ∧ Begun (s.data.toList.drop 1) ps f (s.data.toList.drop i)
  own : wr.ownsRow (w.heap.size + 2) 118 3 v ps.length (rowCells ps)
  res : wr.heap[w.heap.size]? = some (.cells #[.slice none 0 0, .int .i64 0, .int .u8 0, .string ⟨#[]⟩] 128)
  g : wr.heap[w.heap.size + 1]? = some (.cells #[v, .int .i64 0, .int .u8 0, .string ⟨#[]⟩] 128)
  below : Below w.heap.size w wr
  size : w.heap.size + 2 ≤ wr.heap.size

theorem RInv.begun {s : ByteArray} {w wr : World} {i : Nat} {ps : List Ty} {v : Value} (I : RInv s w wr i ps v) : ∃ f, s.size - i < f + 1 ∧ Begun (s.data.toList.drop 1) ps (f + 1) (s.data.toList.drop i) := by
  obtain ⟨f, hf, hr⟩ := I.run
  cases f with
  | zero => omega
  | succ f => exact ⟨f, hf, hr⟩
theorem rs_run {s : ByteArray} {w wr : World} {i : Nat} {ps : List Ty} {v : Value} (I : RInv s w wr i ps v) (hlt : i < s.size) (h41 : ¬ bt s i = 41) (hN : ¬ preN (s.data.toList.drop i) = 0) (h86 : ¬ preB (s.data.toList.drop i) = 86) :
    ∃ f, s.size - (i + (preN (s.data.toList.drop i)).toNat) < f ∧ Begun (s.data.toList.drop 1) (ps ++ [tyOf (s.data.toList.drop i)]) f (s.data.toList.drop (i + (preN (s.data.toList.drop i)).toNat)) := by
  obtain ⟨f, hf, hr⟩ := I.begun
  have hn0 := pre_nn (s.data.toList.drop i)
  refine ⟨f, by omega, ?_⟩
  have := begun_step hr (drop_ne hlt) (hd_ne h41) (stepOk_yes (by omega) h86)
  rwa [List.drop_drop] at this
theorem rs_step {s : ByteArray} {w wr w1 w2 : World} {i g cap : Nat} {ps : List Ty} {v : Value} {X X' : Obj} (I : RInv s w wr i ps v) (hlt : i < s.size) (h41 : ¬ bt s i = 41) (hN : ¬ preN (s.data.toList.drop i) = 0) (h86 : ¬ preB (s.data.toList.drop i) = 86)
    (hb1 : Below wr.heap.size wr w1) (hown : w2.ownsRow (w.heap.size + 2) 118 3 (.slice (some ⟨g, 0, none⟩) (ps.length + 1) cap) (ps.length + 1) (rowCells ps ++ [.int .i64 (preD (s.data.toList.drop i)), .int .u8 (preB (s.data.toList.drop i)), .string (preS (s.data.toList.drop i))]))
    (hgrow : ((w1.alloc X).alloc X').grownBy w2 v.ownBlock) :
    w2.heap[w.heap.size]? = some (.cells #[.slice none 0 0, .int .i64 0, .int .u8 0, .string ⟨#[]⟩] 128) ∧ w2.heap[w.heap.size + 1]? = some (.cells #[v, .int .i64 0, .int .u8 0, .string ⟨#[]⟩] 128) ∧
    RInv s w (w2.setCell ⟨w.heap.size + 1, 0, none⟩ (.slice (some ⟨g, 0, none⟩) (ps.length + 1) cap)) (i + (preN (s.data.toList.drop i)).toNat) (ps ++ [tyOf (s.data.toList.drop i)]) (.slice (some ⟨g, 0, none⟩) (ps.length + 1) cap) := by
  have h1 := I.i1
  have h2 := I.is
  have h3 := I.pl
  have hz := I.size
  have hs1 := hb1.size
  have hn0 := pre_nn (s.data.toList.drop i)
  have hn1 := pre_le (s.data.toList.drop i)
  rw [drop_len] at hn1
  have hv : ∀ k, v.ownBlock = some k → w.heap.size + 2 ≤ k := fun k hk => (I.own.lt k hk).1
  have old : ∀ k, k < w.heap.size + 2 → w2.heap[k]? = wr.heap[k]? := by
    intro k hk
    rw [hgrow.block k (by simp only [World.size_alloc]; omega) (fun e => by have := hv k e.symm; omega), Below.heap_alloc _ _ _ (by simp only [World.size_alloc]; omega), Below.heap_alloc _ _ _ (by omega), hb1.block k (by omega)]
  have hr2 := (old w.heap.size (by omega)).trans I.res
  have hg2 := (old (w.heap.size + 1) (by omega)).trans I.g
  refine ⟨hr2, hg2, by omega, by omega, by rw [List.length_append]; simp; omega, rs_run I hlt h41 hN h86, ?_, ?_, ?_, ?_, ?_⟩
  · rw [rowCells_snoc, List.length_append]
    exact ownsRow_setCell_below hown (by show w.heap.size + 1 < w.heap.size + 2; omega) _
  · rw [Below.heap_setCell _ _ _ _ (by show w.heap.size ≠ w.heap.size + 1; omega)]; exact hr2
  · have := hg2
    simp [World.setCell, Array.getElem?_modify, this]
  · have b1 : Below w.heap.size w w1 := I.below.trans (hb1.mono (by omega))
    have b2 : Below w.heap.size w ((w1.alloc X).alloc X') := below_al (below_al b1 _) _
    have b3 : Below w.heap.size w w2 := b2.grown hgrow (by simp only [World.size_alloc]; omega) (fun k hk => by have := hv k hk; omega)
    exact below_st b3 (by show w.heap.size ≤ w.heap.size + 1; omega) _
  · have := hgrow.size
    simp only [World.size_alloc] at this
    rw [World.size_setCell]; omega
theorem rs_start (s : ByteArray) (hp : 0 < s.size) (w : World) :
    RInv s w ((w.alloc (.cells #[.slice none 0 0, .int .i64 0, .int .u8 0, .string ⟨#[]⟩] 128)).alloc (.cells #[.slice none 0 0, .int .i64 0, .int .u8 0, .string ⟨#[]⟩] 128)) 1 [] (.slice none 0 0) := by
  refine ⟨by omega, by omega, by simp, ⟨_, ?_, begun_start _⟩, World.ownsRow_nil _ _ _ _, ?_, ?_, below_al (below_al (Below.refl _ _) _) _, by simp⟩
  · rw [drop_len]; omega
  · rw [Below.heap_alloc _ _ _ (by simp)]; exact World.alloc_heap_new w _
  · have := World.alloc_heap_new (w.alloc (.cells #[.slice none 0 0, .int .i64 0, .int .u8 0, .string ⟨#[]⟩] 128)) (.cells #[.slice none 0 0, .int .i64 0, .int .u8 0, .string ⟨#[]⟩] 128)
    rwa [World.size_alloc] at this
theorem RInv.value {s : ByteArray} {w wr : World} {i : Nat} {ps : List Ty} {v : Value} (I : RInv s w wr i ps v) : ∃ A c, v = .slice A ps.length c ∧ ps.length ≤ c := by
  rcases I.own.2 with ⟨hv, h0⟩ | ⟨g, cap, cur, hv, _, _, hc, _⟩
  · exact ⟨none, 0, by rw [hv, h0], by omega⟩
  · exact ⟨_, cap, hv, hc⟩
theorem take_ok (s : ByteArray) (i : Nat) (hs : s.size ≤ 140737488355328) (hi : i ≤ s.size) (h : 0 < preN (s.data.toList.drop i)) (w : World) :
    Calls Tryz.prog 103 #[.string s, .int .i64 i] w fun e w' => e = .returned (.tuple #[.agg #[.int .i64 (preD (s.data.toList.drop i)), .int .u8 (preB (s.data.toList.drop i)), .string (preS (s.data.toList.drop i))], .int .i64 (i + preN (s.data.toList.drop i))]) ∧ Below w.heap.size w w' := by
  have g := take_any s i hs hi w
  have e : nextI i (preN (s.data.toList.drop i)) = i + preN (s.data.toList.drop i) := by unfold nextI; rw [if_neg (by omega)]
  rw [e] at g; exact g
theorem take_no (s : ByteArray) (i : Nat) (hs : s.size ≤ 140737488355328) (hi : i ≤ s.size) (h : preN (s.data.toList.drop i) = 0) (w : World) :
    Calls Tryz.prog 103 #[.string s, .int .i64 i] w fun e w' => e = .returned (.tuple #[.agg #[.int .i64 (preD (s.data.toList.drop i)), .int .u8 (preB (s.data.toList.drop i)), .string (preS (s.data.toList.drop i))], .int .i64 (-1)]) ∧ Below w.heap.size w w' := by
  have g := take_any s i hs hi w
  have e : nextI i (preN (s.data.toList.drop i)) = -1 := by unfold nextI; rw [if_pos h]
  rw [e] at g; exact g
theorem take_at1 (s : ByteArray) (i : Nat) (hs : s.size ≤ 140737488355328) (hi : i + 1 ≤ s.size) (w : World) :
    Calls Tryz.prog 103 #[.string s, .int .i64 (i + 1)] w fun e w' => e = .returned (.tuple #[.agg #[.int .i64 (preD (s.data.toList.drop (i + 1))), .int .u8 (preB (s.data.toList.drop (i + 1))), .string (preS (s.data.toList.drop (i + 1)))], .int .i64 (nextI (i + 1) (preN (s.data.toList.drop (i + 1))))]) ∧ Below w.heap.size w w' := take_any s (i + 1) hs hi w
theorem next_end {s : ByteArray} {i : Nat} (hi : i ≤ s.size) : nextI i (preN (s.data.toList.drop i)) = s.size ↔ (0 < preN (s.data.toList.drop i) ∧ preN (s.data.toList.drop i) = (s.data.toList.drop i).length) := by
  have h0 := pre_nn (s.data.toList.drop i)
  rw [drop_len]
  unfold nextI
  split <;> omega

end Go.Proofs.YthfegbhbokhlkaaGreatDoor
