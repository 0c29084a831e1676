/- name.IsClassName. -/
import Derived.Test.YtfpdnhbbbadegaaGreatDoorNameSplit
import Derived.Test.YtfpdnhbbbadegaaGreatDoorRange
namespace Go.Proofs.YtfpdnhbbbadegaaGreatDoor
open Go.ChangeShapes Go.WideShapes Go.ChangeAt Go.RowKit Go.PlainAid Go.Shelf
set_option linter.unusedSimpArgs false
set_option linter.unusedVariables false
attribute [local go_sem] Oper.semAt_some

def boxed (w : World) (s : ByteArray) : World := ((w.alloc (.cells #[.string s] 9)).alloc (.cells #[.string slash] 9)).alloc (.cells #[.int .i64 0] 3)

theorem splitSeq_any (s : ByteArray) (w : World) :
    Calls Tryz.prog 59 #[.string s, .string slash] w fun e w' =>
      e = .returned (.func (.func 101) #[] #[.pointer (some ⟨w.heap.size + 1, 0, none⟩), .pointer (some ⟨w.heap.size, 0, none⟩), .pointer (some ⟨w.heap.size + 1 + 1, 0, none⟩)]) ∧ w' = boxed w s := by
  unfold boxed
  go_enter Tryz.func59, Tryz.ntmps59
  go_wp2
  go_ret
  exact ⟨rfl, rfl⟩

theorem cell_of_box {W : World} {B : Nat} {v : Value} {t : TypeId} (h : W.heap[B]? = some (.cells #[v] t (0, 0))) : W.cell? ⟨B, 0, none⟩ = some v ∧ W.frozen? ⟨B, 0, none⟩ = false := by
  constructor <;> simp [World.cell?, World.frozen?, h]

theorem put_below {n₀ : Nat} {w W : World} {l : Nat} {o : Obj} (h : Below n₀ w W) (hn : n₀ ≤ w.heap.size) (hl : n₀ ≤ l) : Below n₀ w (W.putObj l o) :=
  h.grown (grownBy_putObj' W l o) (Nat.le_trans hn h.size) (fun k e => by cases e; exact hl)
theorem put_cell {W : World} {l k : Nat} {o : Obj} {v : Value} (hk : k ≠ l) (h : W.cell? ⟨k, 0, none⟩ = some v) : (W.putObj l o).cell? ⟨k, 0, none⟩ = some v := (World.cell?_of_block (World.putObj_heap_other hk)).trans h
theorem put_frozen {W : World} {l k : Nat} {o : Obj} {b : Bool} (hk : k ≠ l) (h : W.frozen? ⟨k, 0, none⟩ = b) : (W.putObj l o).frozen? ⟨k, 0, none⟩ = b := (World.frozen?_of_block (World.putObj_heap_other hk)).trans h
theorem Bx.put {bs bp bv l : Nat} {r : ByteArray} {W : World} {o : Obj} (h : Bx bs bp bv r W) (h1 : bs ≠ l) (h2 : bp ≠ l) (h3 : bv ≠ l) : Bx bs bp bv r (W.putObj l o) :=
  ⟨put_cell h1 h.cs, put_frozen h1 h.fs, put_cell h2 h.cp, put_cell h3 h.cv⟩

set_option maxRecDepth 100000 in
set_option maxHeartbeats 2000000 in
theorem cls_in (s : ByteArray) (h64 : s.size ≤ 64) (w : World) :
    CallsIn Fence.wide 3 Tryz.prog 30 #[.string s] w fun e w' => e = .returned (.bool (clsL s.data.toList)) ∧ Below w.heap.size w w' := by
  refine callsIn_of_wp_marks Tryz.func30 rfl trivial ?_ rfl
  simp only [Tryz.ntmps30, List.size_toArray, List.length_cons, List.length_nil, Nat.reduceAdd, Nat.reduceSub, Array.replicate_succ, Array.replicate_zero, List.push_toArray, List.append_toArray, List.nil_append, List.cons_append]
  gi_wp2_with (refine ⟨trivial, ?_⟩; gi_at_call 59; refine (callsIn_wide.2 (splitSeq_any _ _)).mono ?_; rintro e w' ⟨rfl, rfl⟩)
  obtain ⟨W0, hW0⟩ : ∃ W0, boxed (w.alloc (.cells #[.bool false] 4)) s = W0 := ⟨_, rfl⟩
  have hs0 : W0.heap.size = w.heap.size + 4 := by rw [← hW0]; simp [boxed]
  have hb0 : Below w.heap.size w W0 := by
    rw [← hW0]; exact ((((Below.refl _ w).alloc (Nat.le_refl _) _).alloc (by simp only [World.size_alloc]; omega) _).alloc (by simp only [World.size_alloc]; omega) _).alloc (by simp only [World.size_alloc]; omega) _
  have c0 : W0.heap[w.heap.size]? = some (.cells #[.bool false] 4) := by
    rw [← hW0]; exact ((Below.heap_alloc _ _ _ (by simp only [World.size_alloc]; omega)).trans ((Below.heap_alloc _ _ _ (by simp only [World.size_alloc]; omega)).trans (Below.heap_alloc _ _ _ (by simp)))).trans (World.alloc_heap_new w _)
  have c1 : W0.heap[w.heap.size + 1]? = some (.cells #[.string s] 9) := by
    rw [← hW0]
    refine ((Below.heap_alloc _ _ _ (by simp only [World.size_alloc]; omega)).trans (Below.heap_alloc _ _ _ (by simp))).trans ?_
    have := World.alloc_heap_new (w.alloc (.cells #[.bool false] 4)) (.cells #[.string s] 9)
    rwa [World.size_alloc] at this
  have c2 : W0.heap[w.heap.size + 1 + 1]? = some (.cells #[.string slash] 9) := by
    rw [← hW0]
    refine (Below.heap_alloc _ _ _ (by simp)).trans ?_
    have := World.alloc_heap_new ((w.alloc (.cells #[.bool false] 4)).alloc (.cells #[.string s] 9)) (.cells #[.string slash] 9)
    rwa [World.size_alloc, World.size_alloc] at this
  have c3 : W0.heap[w.heap.size + 1 + 1 + 1]? = some (.cells #[.int .i64 0] 3) := by
    rw [← hW0]
    have := World.alloc_heap_new (((w.alloc (.cells #[.bool false] 4)).alloc (.cells #[.string s] 9)).alloc (.cells #[.string slash] 9)) (.cells #[.int .i64 0] 3)
    rwa [World.size_alloc, World.size_alloc, World.size_alloc] at this
  rw [hW0]
  clear hW0
  refine range_by (F := Fence.wide) rfl (by omega) (gf := 101) (lb := #[.pointer (some ⟨w.heap.size + 1 + 1, 0, none⟩), .pointer (some ⟨w.heap.size + 1, 0, none⟩), .pointer (some ⟨w.heap.size + 1 + 1 + 1, 0, none⟩)]) rfl trivial (enters_of Tryz.func101 (by kernel_rfl) rfl)
    (fun x : ByteArray => #[.string x]) (fun _ => rfl)
    (fun x => { tmps := #[.string s, undef, .pointer (some ⟨w.heap.size, 0, none⟩), .string x, .string s, .int .i64 s.size, .bool (decide (64 < (s.size : Int))), .string s,
      .func (.func 101) #[] #[.pointer (some ⟨w.heap.size + 1 + 1, 0, none⟩), .pointer (some ⟨w.heap.size + 1, 0, none⟩), .pointer (some ⟨w.heap.size + 1 + 1 + 1, 0, none⟩)], .string x, undef, undef, undef], defers := [] }) ?assign ?it
  case assign =>
    intro l x W K hK
    gi_wp2
    exact hK
  case it =>
    intro l D Rd Dn W1 hD hDl hl hb1 hsz hRd hRl hDnl hY hR1
    have up : ∀ k o, W0.heap[k]? = some o → W1.heap[k]? = some o := fun k o h => (hb1.block k (Array.getElem?_eq_some_iff.1 h).1).trans h
    obtain ⟨e0, f0⟩ := cell_of_box (up _ _ c0)
    obtain ⟨e1, f1⟩ := cell_of_box (up _ _ c1)
    obtain ⟨e2, f2⟩ := cell_of_box (up _ _ c2)
    obtain ⟨e3, f3⟩ := cell_of_box (up _ _ c3)
    refine (split_in Fence.wide 2 trivial trivial (fun s w => callsIn_wide.2 (index_any s w)) rfl (by omega) l (w.heap.size + 1) (w.heap.size + 1 + 1) (w.heap.size + 1 + 1 + 1) (by omega) (by omega)
      (fun W => Rd W ∧ W.cell? ⟨w.heap.size, 0, none⟩ = some (.bool false) ∧ W.frozen? ⟨w.heap.size, 0, none⟩ = false ∧ Below w.heap.size w W)
      (fun W => Dn W ∧ W.cell? ⟨w.heap.size, 0, none⟩ = some (.bool false) ∧ Below w.heap.size w W) ?_ ?_ s (by omega) W1 ⟨e1, f1, e2, e3⟩ ⟨hR1, e0, f0, hb0.trans (hb1.mono hb0.size)⟩).mono ?_
    · rintro r r' W ⟨h1, h2, h3, h4⟩ hb
      exact ⟨hRd _ _ ((KeepsOthers.setCell _ _ _).from _) h1, (World.cell?_of_block (Below.heap_setCell W ⟨w.heap.size + 1, 0, none⟩ _ w.heap.size (by show w.heap.size ≠ w.heap.size + 1; omega))).trans h2,
        by rw [World.frozen?_setCell]; exact h3, h4.setCell (p := ⟨w.heap.size + 1, 0, none⟩) (by show w.heap.size ≤ w.heap.size + 1; omega) _⟩
    · rintro r x W hx ⟨h1, h2, h3, h4⟩ hb
      refine hY x _ W h1 fun o => ?_
      have hll := hRl W h1
      have hcr := put_cell (o := o) (show w.heap.size ≠ l by omega) h2
      have hfr := put_frozen (o := o) (show w.heap.size ≠ l by omega) h3
      have hbb := put_below (o := o) h4 (Nat.le_refl _) (show w.heap.size ≤ l by omega)
      have hbx := hb.put (o := o) (show w.heap.size + 1 ≠ l by omega) (show w.heap.size + 1 + 1 ≠ l by omega) (show w.heap.size + 1 + 1 + 1 ≠ l by omega)
      generalize W.putObj l o = V at *
      cases hi : idB x with
      | true =>
        gi_wp2_with (refine ⟨trivial, ?_⟩; gi_at_call 60; refine (CallsIn.inRound l (callsIn_wide.2 (ident_any x hx _))).mono ?_; rintro e w' ⟨rfl, rfl⟩)
        exact ⟨KeepsFrom.refl _ _, fun o2 hR => ⟨rfl, ⟨hR, put_cell (by omega) hcr, put_frozen (by omega) hfr, put_below hbb (Nat.le_refl _) (by omega)⟩, hbx.put (by omega) (by omega) (by omega)⟩⟩
      | false =>
        gi_wp2_with (refine ⟨trivial, ?_⟩; gi_at_call 60; refine (CallsIn.inRound l (callsIn_wide.2 (ident_any x hx _))).mono ?_; rintro e w' ⟨rfl, rfl⟩)
        refine ⟨(KeepsOthers.setCell _ _ _).from _, fun o2 hR => ⟨rfl, hR, put_cell (by omega) (World.cell?_setCell_same' _ _ _ (by rw [hcr]; rfl)), put_below (hbb.setCell (p := ⟨w.heap.size, 0, none⟩) (Nat.le_refl _) _) (Nat.le_refl _) (by omega)⟩⟩
    · rintro e W2 ⟨hv, ⟨hc, h1, h2, h3, h4⟩ | ⟨hc, h1, h2, h4⟩⟩
      · refine ⟨hv, .inl ⟨h1, fun o hd => ?_⟩⟩
        have hcr := put_cell (o := o) (show w.heap.size ≠ l by omega) h2
        have hfr := put_frozen (o := o) (show w.heap.size ≠ l by omega) h3
        have hbb := put_below (o := o) h4 (Nat.le_refl _) (show w.heap.size ≤ l by omega)
        generalize W2.putObj l o = V at *
        gi_wp2
        have hd2 := (Below.heap_setCell V ⟨w.heap.size, 0, none⟩ (.bool true) D (by show D ≠ w.heap.size; omega)).trans hd
        refine ⟨by simp, .inl ⟨_, _, rfl, run_takeDeferred hd2, ?_⟩⟩
        have hc5 := put_cell (o := .deferred none) (l := D) (show w.heap.size ≠ D by omega) (World.cell?_setCell_same' V ⟨w.heap.size, 0, none⟩ (.bool true) (by rw [hcr]; rfl))
        refine ⟨.bool true, ?_, by rw [hc], put_below (hbb.setCell (p := ⟨w.heap.size, 0, none⟩) (Nat.le_refl _) _) (Nat.le_refl _) (by omega)⟩
        simp [results, Tryz.f30, go_sem, hc5]
      · refine ⟨hv, .inr ⟨h1, fun o hd => ?_⟩⟩
        have hcr := put_cell (o := o) (show w.heap.size ≠ l by omega) h2
        have hbb := put_below (o := o) h4 (Nat.le_refl _) (show w.heap.size ≤ l by omega)
        generalize W2.putObj l o = V at *
        gi_wp2
        refine ⟨by simp, .inl ⟨_, _, rfl, run_takeDeferred hd, ?_⟩⟩
        have hc5 := put_cell (o := .deferred none) (l := D) (show w.heap.size ≠ D by omega) hcr
        refine ⟨.bool false, ?_, by rw [hc], put_below hbb (Nat.le_refl _) (by omega)⟩
        simp [results, Tryz.f30, go_sem, hc5]

theorem cls_any (s : ByteArray) (w : World) :
    Calls Tryz.prog 30 #[.string s] w fun e w' => e = .returned (.bool (clsB s)) ∧ Below w.heap.size w w' := by
  by_cases h64 : s.size ≤ 64
  · have hc : clsB s = clsL s.data.toList := by unfold clsB; rw [decide_eq_true h64]; rfl
    rw [hc]
    exact callsIn_wide.1 (cls_in s h64 w)
  · have hc : clsB s = false := by unfold clsB; rw [decide_eq_false h64]; rfl
    rw [hc]
    go_enter Tryz.func30, Tryz.ntmps30
    go_wp2
    have hc5 := (cell_of_box (World.alloc_heap_new w (.cells #[.bool false] 4))).1
    refine bodyPost_ret (v := .bool false) ?_ rfl ⟨rfl, (Below.refl _ w).alloc (Nat.le_refl _) _⟩
    simp [results, Tryz.f30, go_sem, hc5]

end Go.Proofs.YtfpdnhbbbadegaaGreatDoor
