/- Layer 4: desc.ParseSignature. -/
import Derived.Test.YthfegbhbokhlkaaGreatDoorDescSig
namespace Go.Proofs.YthfegbhbokhlkaaGreatDoor
open Go.ChangeShapes Go.WideShapes Go.ChangeAt Go.RowKit Go.PlainAid
set_option linter.unusedSimpArgs false
set_option linter.unusedVariables false

theorem info30 : (Tryz.prog.info? 118).map (fun i => (i.zero, i.size, i.bytes)) = some (some (.agg #[.int .i64 0, .int .u8 0, .string ⟨#[]⟩]), 3, 32) := by kernel_rfl
theorem four_cells {W : World} {B : Nat} {x y z u : Value} {t : TypeId} (h : W.heap[B]? = some (.cells #[x, y, z, u] t)) :
    (W.cell? ⟨B, 0, none⟩ = some x ∧ W.cell? ⟨B, 1, none⟩ = some y ∧ W.cell? ⟨B, 2, none⟩ = some z ∧ W.cell? ⟨B, 3, none⟩ = some u) ∧ W.frozen? ⟨B, 0, none⟩ = false ∧ W.frozen? ⟨B, 1, none⟩ = false ∧ W.frozen? ⟨B, 2, none⟩ = false ∧ W.frozen? ⟨B, 3, none⟩ = false := by
  refine ⟨⟨?_, ?_, ?_, ?_⟩, ?_, ?_, ?_, ?_⟩ <;> simp [World.cell?, World.frozen?, h]
/-- desc.prefix at a cut of the string -/
theorem prefix_at (s : ByteArray) (i : Nat) (hs : s.size ≤ 140737488355328) (w : World) :
    Calls Tryz.prog 107 #[.string (s.extract i s.size)] w fun e w' => e = .returned (.tuple #[.agg #[.int .i64 (preD (s.data.toList.drop i)), .int .u8 (preB (s.data.toList.drop i)), .string (preS (s.data.toList.drop i))], .int .i64 (preN (s.data.toList.drop i))]) ∧ Below w.heap.size w w' := by
  have h := prefix_any (s.extract i s.size) (by rw [ByteArray.size_extract]; omega) w
  rw [data_extract, List.take_of_length_le (by rw [drop_len]; omega)] at h
  exact h

structure PsInv (s : ByteArray) (w wr : World) (i : Nat) (ps : List Ty) (v : Value) : Prop where
  i1 : 1 ≤ i
  is : i ≤ s.size
  pl : ps.length + 1 ≤ i
  run : ∃ f, s.size - i < f ∧ Begun (s.data.toList.drop 1) ps f (s.data.toList.drop i)
  own : wr.ownsRow (w.heap.size + 2) 118 3 v (min ps.length 16) (rowCells (ps.take 16))
  res : wr.heap[w.heap.size]? = some (.cells #[.slice none 0 0, .int .i64 0, .int .u8 0, .string ⟨#[]⟩] 128)
  g : wr.heap[w.heap.size + 1]? = some (.cells #[v, .int .i64 0, .int .u8 0, .string ⟨#[]⟩] 128)
  below : Below w.heap.size w wr
  size : w.heap.size + 2 ≤ wr.heap.size

theorem stepOk_yes {l : List UInt8} (h : 0 < preN l) (hb : ¬ preB l = 86) : stepOk l = true := by unfold stepOk; rw [decide_eq_true h, decide_eq_false hb]; rfl
theorem stepOk_none {l : List UInt8} (h : preN l = 0) : stepOk l = false := by unfold stepOk; rw [decide_eq_false (by omega)]; rfl
theorem stepOk_void {l : List UInt8} (hb : preB l = 86) : stepOk l = false := by unfold stepOk; rw [decide_eq_true hb]; simp
theorem drop_ne {s : ByteArray} {i : Nat} (h : i < s.size) : s.data.toList.drop i ≠ [] := by
  intro e
  have := drop_len s i
  rw [e] at this; simp at this; omega
theorem drop_hd (s : ByteArray) (i : Nat) : (((s.data.toList.drop i).getD 0 0).toNat : Int) = bt s i := by rw [bt_drop]; rfl
theorem hd_ne {s : ByteArray} {i : Nat} (h : ¬ bt s i = 41) : (s.data.toList.drop i).getD 0 0 ≠ 41 := by
  intro e
  have := drop_hd s i
  rw [e] at this
  exact h this.symm
theorem PsInv.begun {s : ByteArray} {w wr : World} {i : Nat} {ps : List Ty} {v : Value} (I : PsInv s w wr i ps v) : ∃ f, s.size - i < f + 1 ∧ Begun (s.data.toList.drop 1) ps (f + 1) (s.data.toList.drop i) := by
  obtain ⟨f, hf, hr⟩ := I.run
  cases f with
  | zero => omega
  | succ f => exact ⟨f, hf, hr⟩
theorem ps_run {s : ByteArray} {w wr : World} {i : Nat} {ps : List Ty} {v : Value} (I : PsInv s w wr i ps v) (hlt : i < s.size) (h41 : ¬ bt s i = 41) (hN : ¬ preN (s.data.toList.drop i) = 0) (h86 : ¬ preB (s.data.toList.drop i) = 86) :
    ∃ f, s.size - (i + (preN (s.data.toList.drop i)).toNat) < f ∧ Begun (s.data.toList.drop 1) (ps ++ [tyOf (s.data.toList.drop i)]) f (s.data.toList.drop (i + (preN (s.data.toList.drop i)).toNat)) := by
  obtain ⟨f, hf, hr⟩ := I.begun
  have hn0 := pre_nn (s.data.toList.drop i)
  refine ⟨f, by omega, ?_⟩
  have := begun_step hr (drop_ne hlt) (hd_ne h41) (stepOk_yes (by omega) h86)
  rwa [List.drop_drop] at this
theorem ps_step {s : ByteArray} {w wr w1 w2 : World} {i g cap : Nat} {ps : List Ty} {v : Value} {X X' : Obj} (I : PsInv s w wr i ps v) (hlt : i < s.size) (h41 : ¬ bt s i = 41) (hN : ¬ preN (s.data.toList.drop i) = 0) (h86 : ¬ preB (s.data.toList.drop i) = 86) (h16 : ps.length + 1 ≤ 16)
    (hb1 : Below wr.heap.size wr w1) (hown : w2.ownsRow (w.heap.size + 2) 118 3 (.slice (some ⟨g, 0, none⟩) (ps.length + 1) cap) (ps.length + 1) (rowCells ps ++ [.int .i64 (preD (s.data.toList.drop i)), .int .u8 (preB (s.data.toList.drop i)), .string (preS (s.data.toList.drop i))]))
    (hgrow : ((w1.alloc X).alloc X').grownBy w2 v.ownBlock) :
    w2.heap[w.heap.size]? = some (.cells #[.slice none 0 0, .int .i64 0, .int .u8 0, .string ⟨#[]⟩] 128) ∧ w2.heap[w.heap.size + 1]? = some (.cells #[v, .int .i64 0, .int .u8 0, .string ⟨#[]⟩] 128) ∧
    PsInv s w (w2.setCell ⟨w.heap.size + 1, 0, none⟩ (.slice (some ⟨g, 0, none⟩) (ps.length + 1) cap)) (i + (preN (s.data.toList.drop i)).toNat) (ps ++ [tyOf (s.data.toList.drop i)]) (.slice (some ⟨g, 0, none⟩) (ps.length + 1) cap) := by
  have h1 := I.i1
  have h2 := I.is
  have h3 := I.pl
  have hz := I.size
  have hs1 := hb1.size
  have hn0 := pre_nn (s.data.toList.drop i)
  have hn1 := pre_le (s.data.toList.drop i)
  rw [drop_len] at hn1
  have hv : ∀ k, v.ownBlock = some k → w.heap.size + 2 ≤ k := fun k hk => (I.own.lt k hk).1
  have old : ∀ k, k < w.heap.size + 2 → w2.heap[k]? = wr.heap[k]? := by
    intro k hk
    rw [hgrow.block k (by simp only [World.size_alloc]; omega) (fun e => by have := hv k e.symm; omega), Below.heap_alloc _ _ _ (by simp only [World.size_alloc]; omega), Below.heap_alloc _ _ _ (by omega), hb1.block k (by omega)]
  have hr2 := (old w.heap.size (by omega)).trans I.res
  have hg2 := (old (w.heap.size + 1) (by omega)).trans I.g
  refine ⟨hr2, hg2, by omega, by omega, by rw [List.length_append]; simp; omega, ps_run I hlt h41 hN h86, ?_, ?_, ?_, ?_, ?_⟩
  · have hle : (ps ++ [tyOf (s.data.toList.drop i)]).length ≤ 16 := by rw [List.length_append]; simpa using h16
    rw [List.take_of_length_le hle, rowCells_snoc, Nat.min_eq_left hle, List.length_append]
    exact ownsRow_setCell_below hown (by show w.heap.size + 1 < w.heap.size + 2; omega) _
  · rw [Below.heap_setCell _ _ _ _ (by show w.heap.size ≠ w.heap.size + 1; omega)]; exact hr2
  · have := hg2
    simp [World.setCell, Array.getElem?_modify, this]
  · have b1 : Below w.heap.size w w1 := I.below.trans (hb1.mono (by omega))
    have b2 : Below w.heap.size w ((w1.alloc X).alloc X') := below_al (below_al b1 _) _
    have b3 : Below w.heap.size w w2 := b2.grown hgrow (by simp only [World.size_alloc]; omega) (fun k hk => by have := hv k hk; omega)
    exact below_st b3 (by show w.heap.size ≤ w.heap.size + 1; omega) _
  · have := hgrow.size
    simp only [World.size_alloc] at this
    rw [World.size_setCell]; omega
theorem ps_skip {s : ByteArray} {w wr w1 : World} {i : Nat} {ps : List Ty} {v : Value} {X : Obj} (I : PsInv s w wr i ps v) (hlt : i < s.size) (h41 : ¬ bt s i = 41) (hN : ¬ preN (s.data.toList.drop i) = 0) (h86 : ¬ preB (s.data.toList.drop i) = 86) (h16 : ¬ ps.length + 1 ≤ 16)
    (hb1 : Below wr.heap.size wr w1) : PsInv s w (w1.alloc X) (i + (preN (s.data.toList.drop i)).toNat) (ps ++ [tyOf (s.data.toList.drop i)]) v := by
  have h1 := I.i1
  have h2 := I.is
  have h3 := I.pl
  have hz := I.size
  have hs1 := hb1.size
  have hn0 := pre_nn (s.data.toList.drop i)
  have hn1 := pre_le (s.data.toList.drop i)
  rw [drop_len] at hn1
  have old : ∀ k, k < w.heap.size + 2 → (w1.alloc X).heap[k]? = wr.heap[k]? := by
    intro k hk
    rw [Below.heap_alloc _ _ _ (by omega), hb1.block k (by omega)]
  refine ⟨by omega, by omega, by rw [List.length_append]; simp; omega, ps_run I hlt h41 hN h86, ?_, (old _ (by omega)).trans I.res, (old _ (by omega)).trans I.g, below_al (I.below.trans (hb1.mono (by omega))) _, by rw [World.size_alloc]; omega⟩
  rw [List.take_append_of_le_length (by omega), List.length_append, show min (ps.length + [tyOf (s.data.toList.drop i)].length) 16 = min ps.length 16 by simp; omega]
  exact (owns_below I.own hb1).alloc _

theorem parse_at_ok (s : ByteArray) (i : Nat) (hs : s.size ≤ 140737488355328) (h : 0 < preN (s.data.toList.drop i) ∧ preN (s.data.toList.drop i) = (s.data.toList.drop i).length) (w : World) :
    Calls Tryz.prog 98 #[.string (s.extract i s.size)] w fun e w' => e = .returned (.tuple #[.agg #[.int .i64 (preD (s.data.toList.drop i)), .int .u8 (preB (s.data.toList.drop i)), .string (preS (s.data.toList.drop i))], .int .i64 0]) ∧ Below w.heap.size w w' := by
  have hx : (s.extract i s.size).data.toList = s.data.toList.drop i := by rw [data_extract, List.take_of_length_le (by rw [drop_len]; omega)]
  have h1 := parse_any (s.extract i s.size) (by rw [ByteArray.size_extract]; omega) w
  have g := pa_ok (s := s.extract i s.size) (by rw [← len_data (s.extract i s.size), hx]; exact h)
  rw [g.1, g.2.1, g.2.2.1, g.2.2.2, hx] at h1
  exact h1
theorem parse_at_bad (s : ByteArray) (i : Nat) (hs : s.size ≤ 140737488355328) (h : ¬ (0 < preN (s.data.toList.drop i) ∧ preN (s.data.toList.drop i) = (s.data.toList.drop i).length)) (w : World) :
    Calls Tryz.prog 98 #[.string (s.extract i s.size)] w fun e w' => e = .returned (.tuple #[.agg #[.int .i64 0, .int .u8 0, .string ⟨#[]⟩], .int .i64 13]) ∧ Below w.heap.size w w' := by
  have hx : (s.extract i s.size).data.toList = s.data.toList.drop i := by rw [data_extract, List.take_of_length_le (by rw [drop_len]; omega)]
  have h1 := parse_any (s.extract i s.size) (by rw [ByteArray.size_extract]; omega) w
  have g := pa_bad (s := s.extract i s.size) (by rw [← len_data (s.extract i s.size), hx]; exact h)
  rw [g.1, g.2.1, g.2.2.1, g.2.2.2] at h1
  exact h1
theorem ps_start (s : ByteArray) (hp : 0 < s.size) (w : World) :
    PsInv s w ((w.alloc (.cells #[.slice none 0 0, .int .i64 0, .int .u8 0, .string ⟨#[]⟩] 128)).alloc (.cells #[.slice none 0 0, .int .i64 0, .int .u8 0, .string ⟨#[]⟩] 128)) 1 [] (.slice none 0 0) := by
  refine ⟨by omega, by omega, by simp, ⟨_, ?_, begun_start _⟩, World.ownsRow_nil _ _ _ _, ?_, ?_, below_al (below_al (Below.refl _ _) _) _, by simp⟩
  · rw [drop_len]; omega
  · rw [Below.heap_alloc _ _ _ (by simp)]; exact World.alloc_heap_new w _
  · have := World.alloc_heap_new (w.alloc (.cells #[.slice none 0 0, .int .i64 0, .int .u8 0, .string ⟨#[]⟩] 128)) (.cells #[.slice none 0 0, .int .i64 0, .int .u8 0, .string ⟨#[]⟩] 128)
    rwa [World.size_alloc] at this
theorem PsInv.value {s : ByteArray} {w wr : World} {i : Nat} {ps : List Ty} {v : Value} (I : PsInv s w wr i ps v) : ∃ A c, v = .slice A (min ps.length 16) c ∧ min ps.length 16 ≤ c := by
  rcases I.own.2 with ⟨hv, h0⟩ | ⟨g, cap, cur, hv, _, _, hc, _⟩
  · exact ⟨none, 0, by rw [hv, h0], by omega⟩
  · exact ⟨_, cap, hv, hc⟩
theorem hd40 {s : ByteArray} (h40 : bt s 0 = 40) : s.data.toList.getD 0 0 = 40 := by
  rw [bt_data] at h40; exact u8_yes (c := 40) h40
theorem drop1 (s : ByteArray) (i : Nat) : (s.data.toList.drop i).drop 1 = s.data.toList.drop (i + 1) := by rw [List.drop_drop]

theorem lt_of_heap {W : World} {B : Nat} {o : Obj} (h : W.heap[B]? = some o) : B < W.heap.size := by
  rcases Nat.lt_or_ge B W.heap.size with hl | hl
  · exact hl
  · rw [Array.getElem?_eq_none hl] at h; cases h
theorem sig_fill {W : World} {B : Nat} {v x y z a b c : Value} {t : TypeId} {o : Obj} (h : W.heap[B]? = some (.cells #[v, x, y, z] t)) :
    ((((W.setCell ⟨B, 1, none⟩ a).setCell ⟨B, 2, none⟩ b).setCell ⟨B, 3, none⟩ c).alloc o).heap[B]? = some (.cells #[v, a, b, c] t) := by
  rw [Below.heap_alloc _ _ _ (by simp only [World.size_setCell]; exact lt_of_heap h)]
  simp [World.setCell, Array.getElem?_modify, h]
theorem sig_far {W : World} {B C : Nat} {a b c : Value} {o p : Obj} (h : W.heap[C]? = some p) (hne : C ≠ B) :
    ((((W.setCell ⟨B, 1, none⟩ a).setCell ⟨B, 2, none⟩ b).setCell ⟨B, 3, none⟩ c).alloc o).heap[C]? = some p := by
  rw [Below.heap_alloc _ _ _ (by simp only [World.size_setCell]; exact lt_of_heap h), Below.heap_setCell _ _ _ _ hne, Below.heap_setCell _ _ _ _ hne, Below.heap_setCell _ _ _ _ hne]
  exact h
theorem Tys.keep {w w' : World} {B : Nat} {A : Option Addr} {ps : List Ty} (h : Tys w B A ps) (hk : ∀ g, A.map (·.block) = some g → w'.heap[g]? = w.heap[g]?) (hs : B ≤ w'.heap.size) : Tys w' w'.heap.size A ps := by
  rcases h with h | ⟨g, o, hA, hg, hc⟩
  · exact Or.inl h
  · refine Or.inr ⟨g, o, hA, by omega, fun i p hi => ?_⟩
    have hh := hk g (by rw [hA]; rfl)
    obtain ⟨a, b, c⟩ := hc i p hi
    exact ⟨(World.cell?_of_block (a := ⟨g, _, none⟩) hh).trans a, (World.cell?_of_block (a := ⟨g, _, none⟩) hh).trans b, (World.cell?_of_block (a := ⟨g, _, none⟩) hh).trans c⟩

end Go.Proofs.YthfegbhbokhlkaaGreatDoor
