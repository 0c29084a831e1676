/- Layer 53: quote. (gen/yj.py) -/
import Derived.Test.YtfpdnhbbbadegaaGreatDoorYg
import Derived.Test.YtfpdnhbbbadegaaGreatDoorBuild
namespace Go.Proofs.YtfpdnhbbbadegaaGreatDoor
open Go.ChangeShapes Go.WideShapes Go.ChangeAt Go.RowKit Go.PlainAid
set_option linter.unusedSimpArgs false
set_option linter.unusedVariables false

abbrev Blt (w wr : World) (l : List UInt8) : Prop := Lib.IsBuilder 58 5 w.heap.size w.heap.size (Lib.byteCells l) wr
theorem isb_used {w w1 : World} {bs : List Value} (h : Lib.BuilderAt 58 5 w.heap.size w.heap.size (.pointer (some ⟨w.heap.size, 0, none⟩)) bs w1) : Lib.IsBuilder 58 5 w.heap.size w.heap.size bs w1 := Or.inr h
theorem isb_as {w w1 : World} {bs bs' : List Value} (h : Lib.IsBuilder 58 5 w.heap.size w.heap.size bs w1) (e : bs = bs') : Lib.IsBuilder 58 5 w.heap.size w.heap.size bs' w1 := e ▸ h
theorem qt_len (l : List UInt8) : (l.flatMap qtC).length ≤ 4 * l.length := by
  induction l with
  | nil => simp
  | cons c r ih =>
    rw [List.flatMap_cons, List.length_append, List.length_cons]
    have : (qtC c).length ≤ 4 := by unfold qtC; split <;> (try split) <;> (try split) <;> simp
    omega
theorem dg_one : ∀ n, ∀ h : n < (⟨#[48, 49, 50, 51, 52, 53, 54, 55, 56, 57, 97, 98, 99, 100, 101, 102]⟩ : ByteArray).size, (⟨#[48, 49, 50, 51, 52, 53, 54, 55, 56, 57, 97, 98, 99, 100, 101, 102]⟩ : ByteArray)[n].toNat = (hxC n).toNat := by
  intro n h
  have h' : n < 16 := h
  have : ∀ m, m < 16 → ∀ h : m < (⟨#[48, 49, 50, 51, 52, 53, 54, 55, 56, 57, 97, 98, 99, 100, 101, 102]⟩ : ByteArray).size, (⟨#[48, 49, 50, 51, 52, 53, 54, 55, 56, 57, 97, 98, 99, 100, 101, 102]⟩ : ByteArray)[m].toNat = (hxC m).toNat := by decide +kernel
  exact this n h' h
theorem dg_at {n m : Nat} (e : n = m) (hm : m < 16) (h : n < (⟨#[48, 49, 50, 51, 52, 53, 54, 55, 56, 57, 97, 98, 99, 100, 101, 102]⟩ : ByteArray).size) : (((⟨#[48, 49, 50, 51, 52, 53, 54, 55, 56, 57, 97, 98, 99, 100, 101, 102]⟩ : ByteArray)[n]'h).toNat : Int) = ((hxC m).toNat : Int) := by
  subst e; rw [dg_one]
theorem blt_new (w : World) : Blt w (w.alloc (.cells #[.pointer none, .slice none 0 0] 58)) [] := by
  refine Or.inl ⟨Nat.le_refl _, .slice none 0 0, heap_alloc_new w _, World.ownsRow_nil _ _ _ _, by simp [Value.ownBlock]⟩
set_option maxRecDepth 100000 in
set_option maxHeartbeats 2000000 in
theorem quote_any (s : ByteArray) (hs : s.size ≤ 5000000) (w : World) : Calls Tryz.prog 23 #[.string s] w fun e w' => e = .returned (.string (bsB (quL s.data.toList))) ∧ Below w.heap.size w w' := by
  have hb := get_bt s
  have hlen := len_data s
  have hz2 : (⟨#[92, 110]⟩ : ByteArray).size = 2 := rfl
  have hz3 : (⟨#[92, 120]⟩ : ByteArray).size = 2 := rfl
  obtain ⟨l, hl⟩ : ∃ l, s.data.toList = l := ⟨_, rfl⟩
  have HL := Lib.hid hl
  rw [hl] at hlen ⊢
  have HBW := Lib.hid (below_al (Below.refl w.heap.size w) (.cells #[.pointer none, .slice none 0 0] 58))
  have HC := Lib.hid (blt_new w)
  clear hl
  go_enter Tryz.func23, Tryz.ntmps23
  go_upto_region 1 with fail
  go_wp2_with (go_at_call 51; refine (wbyte_any w.heap.size w.heap.size _ _ _ HC.out (by simp only [List.length_append, List.length_cons, List.length_nil, Lib.byteCells_length, Lib.strCells_length] <;> omega) HBW.out.size).mono ?_; rintro e w1 ⟨rfl, hbl, hbb⟩; have HC := Lib.hid (isb_used hbl); have HBW := Lib.hid (HBW.out.trans hbb); clear hbl hbb)
  go_loopw [9] (fun i wr => ∃ k : Nat, k ≤ s.size ∧ i = .int .i64 k ∧ Blt w wr (34 :: (l.take k).flatMap qtC) ∧ Below w.heap.size w wr) (fun i _ => s.size - (intOf i).toNat)
  case atStart => exact ⟨0, Nat.zero_le _, rfl, isb_as HC.out (by simp [Lib.byteCells]), HBW.out⟩
  case round =>
    obtain ⟨k, hk, rfl, hC, hB⟩ := hrel
    have HC := Lib.hid hC
    have HBW := Lib.hid hB
    have hql := qt_len (l.take k)
    rw [List.length_take] at hql
    clear hC hB
    by_cases hlt : k < s.size
    · obtain ⟨c, r, hd, hc, hr⟩ := drop_bt hlt
      rw [HL.out] at hd hr
      have hb0 := bt_nonneg s k
      have hb1 := bt_le s k
      have HT := Lib.hid (show (l.take (k + 1)).flatMap qtC = (l.take k).flatMap qtC ++ qtC c by
        have h : l[k]? = some c := by rw [← List.head?_drop, hd]; rfl
        rw [List.take_add_one, h, List.flatMap_append]
        simp)
      have HCC := Lib.hid hc
      clear hd hc hr
      by_cases h34 : bt s k = 34
      · have HQ := Lib.hid (show qtC c = [92, c] by unfold qtC; rw [if_pos (by have := HCC.out; omega)])
        have e34 : (bt s k == 34) = true := by simpa using h34
        clear h34
        go_wp2_with (first | (go_at_call 51; refine (wbyte_any w.heap.size w.heap.size _ _ _ HC.out (by simp only [List.length_append, List.length_cons, List.length_nil, Lib.byteCells_length, Lib.strCells_length] <;> omega) HBW.out.size).mono ?_; rintro e w1 ⟨rfl, hbl, hbb⟩; have HC := Lib.hid (isb_used hbl); have HBW := Lib.hid (HBW.out.trans hbb); clear hbl hbb) | (go_at_call 52; refine (wstr_any w.heap.size w.heap.size _ _ _ HC.out (by simp only [List.length_append, List.length_cons, List.length_nil, Lib.byteCells_length, Lib.strCells_length] <;> omega) HBW.out.size).mono ?_; rintro e w1 ⟨rfl, hbl, hbb⟩; have HC := Lib.hid (isb_used hbl); have HBW := Lib.hid (HBW.out.trans hbb); clear hbl hbb))
        refine ⟨⟨k + 1, by omega, by first | rfl | go_num, ?_, HBW.out⟩, ?_⟩
        · rw [HT.out, HQ.out]
          exact isb_as HC.out (by simp [Lib.byteCells, Lib.strCells, HCC.out])
        · simp [intOf]; omega
      · have e34 : (bt s k == 34) = false := by simpa using h34
        by_cases h92 : bt s k = 92
        · have HQ := Lib.hid (show qtC c = [92, c] by unfold qtC; rw [if_pos (by have := HCC.out; omega)])
          have e92 : (bt s k == 92) = true := by simpa using h92
          clear h34 h92
          go_wp2_with (first | (go_at_call 51; refine (wbyte_any w.heap.size w.heap.size _ _ _ HC.out (by simp only [List.length_append, List.length_cons, List.length_nil, Lib.byteCells_length, Lib.strCells_length] <;> omega) HBW.out.size).mono ?_; rintro e w1 ⟨rfl, hbl, hbb⟩; have HC := Lib.hid (isb_used hbl); have HBW := Lib.hid (HBW.out.trans hbb); clear hbl hbb) | (go_at_call 52; refine (wstr_any w.heap.size w.heap.size _ _ _ HC.out (by simp only [List.length_append, List.length_cons, List.length_nil, Lib.byteCells_length, Lib.strCells_length] <;> omega) HBW.out.size).mono ?_; rintro e w1 ⟨rfl, hbl, hbb⟩; have HC := Lib.hid (isb_used hbl); have HBW := Lib.hid (HBW.out.trans hbb); clear hbl hbb))
          refine ⟨⟨k + 1, by omega, by first | rfl | go_num, ?_, HBW.out⟩, ?_⟩
          · rw [HT.out, HQ.out]
            exact isb_as HC.out (by simp [Lib.byteCells, Lib.strCells, HCC.out])
          · simp [intOf]; omega
        · have e92 : (bt s k == 92) = false := by simpa using h92
          by_cases h10 : bt s k = 10
          · have HQ := Lib.hid (show qtC c = [92, 110] by unfold qtC; rw [if_neg (by have := HCC.out; omega), if_pos (by have := HCC.out; omega)])
            have e10 : (bt s k == 10) = true := by simpa using h10
            clear h34 h92 h10
            go_wp2_with (first | (go_at_call 51; refine (wbyte_any w.heap.size w.heap.size _ _ _ HC.out (by simp only [List.length_append, List.length_cons, List.length_nil, Lib.byteCells_length, Lib.strCells_length] <;> omega) HBW.out.size).mono ?_; rintro e w1 ⟨rfl, hbl, hbb⟩; have HC := Lib.hid (isb_used hbl); have HBW := Lib.hid (HBW.out.trans hbb); clear hbl hbb) | (go_at_call 52; refine (wstr_any w.heap.size w.heap.size _ _ _ HC.out (by simp only [List.length_append, List.length_cons, List.length_nil, Lib.byteCells_length, Lib.strCells_length] <;> omega) HBW.out.size).mono ?_; rintro e w1 ⟨rfl, hbl, hbb⟩; have HC := Lib.hid (isb_used hbl); have HBW := Lib.hid (HBW.out.trans hbb); clear hbl hbb))
            refine ⟨⟨k + 1, by omega, by first | rfl | go_num, ?_, HBW.out⟩, ?_⟩
            · rw [HT.out, HQ.out]
              exact isb_as HC.out (by simp [Lib.byteCells, Lib.strCells, HCC.out])
            · simp [intOf]; omega
          · have e10 : (bt s k == 10) = false := by simpa using h10
            by_cases h32 : bt s k < 32
            · have HQ := Lib.hid (show qtC c = [92, 120, hxC (c.toNat / 16), hxC (c.toNat % 16)] by unfold qtC; rw [if_neg (by have := HCC.out; omega), if_neg (by have := HCC.out; omega), if_pos (by have := HCC.out; omega)])
              clear h34 h92 h10
              go_wp2_with (first | (go_at_call 51; refine (wbyte_any w.heap.size w.heap.size _ _ _ HC.out (by simp only [List.length_append, List.length_cons, List.length_nil, Lib.byteCells_length, Lib.strCells_length] <;> omega) HBW.out.size).mono ?_; rintro e w1 ⟨rfl, hbl, hbb⟩; have HC := Lib.hid (isb_used hbl); have HBW := Lib.hid (HBW.out.trans hbb); clear hbl hbb) | (go_at_call 52; refine (wstr_any w.heap.size w.heap.size _ _ _ HC.out (by simp only [List.length_append, List.length_cons, List.length_nil, Lib.byteCells_length, Lib.strCells_length] <;> omega) HBW.out.size).mono ?_; rintro e w1 ⟨rfl, hbl, hbb⟩; have HC := Lib.hid (isb_used hbl); have HBW := Lib.hid (HBW.out.trans hbb); clear hbl hbb))
              refine ⟨⟨k + 1, by omega, by first | rfl | go_num, ?_, HBW.out⟩, ?_⟩
              · rw [HT.out, HQ.out]
                exact isb_as HC.out (by simp [Lib.byteCells, Lib.strCells, HCC.out]; exact ⟨dg_at (by have := HCC.out; omega) (by have := HCC.out; omega) _, dg_at (by have := HCC.out; omega) (by have := HCC.out; omega) _⟩)
              · simp [intOf]; omega
            · by_cases h126 : 126 < bt s k
              · have HQ := Lib.hid (show qtC c = [92, 120, hxC (c.toNat / 16), hxC (c.toNat % 16)] by unfold qtC; rw [if_neg (by have := HCC.out; omega), if_neg (by have := HCC.out; omega), if_pos (by have := HCC.out; omega)])
                clear h34 h92 h10
                go_wp2_with (first | (go_at_call 51; refine (wbyte_any w.heap.size w.heap.size _ _ _ HC.out (by simp only [List.length_append, List.length_cons, List.length_nil, Lib.byteCells_length, Lib.strCells_length] <;> omega) HBW.out.size).mono ?_; rintro e w1 ⟨rfl, hbl, hbb⟩; have HC := Lib.hid (isb_used hbl); have HBW := Lib.hid (HBW.out.trans hbb); clear hbl hbb) | (go_at_call 52; refine (wstr_any w.heap.size w.heap.size _ _ _ HC.out (by simp only [List.length_append, List.length_cons, List.length_nil, Lib.byteCells_length, Lib.strCells_length] <;> omega) HBW.out.size).mono ?_; rintro e w1 ⟨rfl, hbl, hbb⟩; have HC := Lib.hid (isb_used hbl); have HBW := Lib.hid (HBW.out.trans hbb); clear hbl hbb))
                refine ⟨⟨k + 1, by omega, by first | rfl | go_num, ?_, HBW.out⟩, ?_⟩
                · rw [HT.out, HQ.out]
                  exact isb_as HC.out (by simp [Lib.byteCells, Lib.strCells, HCC.out]; exact ⟨dg_at (by have := HCC.out; omega) (by have := HCC.out; omega) _, dg_at (by have := HCC.out; omega) (by have := HCC.out; omega) _⟩)
                · simp [intOf]; omega
              · have HQ := Lib.hid (show qtC c = [c] by unfold qtC; rw [if_neg (by have := HCC.out; omega), if_neg (by have := HCC.out; omega), if_neg (by have := HCC.out; omega)])
                clear h34 h92 h10
                go_wp2_with (first | (go_at_call 51; refine (wbyte_any w.heap.size w.heap.size _ _ _ HC.out (by simp only [List.length_append, List.length_cons, List.length_nil, Lib.byteCells_length, Lib.strCells_length] <;> omega) HBW.out.size).mono ?_; rintro e w1 ⟨rfl, hbl, hbb⟩; have HC := Lib.hid (isb_used hbl); have HBW := Lib.hid (HBW.out.trans hbb); clear hbl hbb) | (go_at_call 52; refine (wstr_any w.heap.size w.heap.size _ _ _ HC.out (by simp only [List.length_append, List.length_cons, List.length_nil, Lib.byteCells_length, Lib.strCells_length] <;> omega) HBW.out.size).mono ?_; rintro e w1 ⟨rfl, hbl, hbb⟩; have HC := Lib.hid (isb_used hbl); have HBW := Lib.hid (HBW.out.trans hbb); clear hbl hbb))
                refine ⟨⟨k + 1, by omega, by first | rfl | go_num, ?_, HBW.out⟩, ?_⟩
                · rw [HT.out, HQ.out]
                  exact isb_as HC.out (by simp [Lib.byteCells, Lib.strCells, HCC.out])
                · simp [intOf]; omega
    · obtain rfl : k = s.size := by omega
      have HE := Lib.hid (show ∀ W, Lib.IsBuilder 58 5 w.heap.size w.heap.size (Lib.byteCells (34 :: (l.take s.size).flatMap qtC) ++ [.int .u8 34]) W → Blt w W (quL l) from fun W h => isb_as h (by rw [List.take_of_length_le (by omega)]; simp [Lib.byteCells, quL]))
      go_wp2_with (first | (go_at_call 51; refine (wbyte_any w.heap.size w.heap.size _ _ _ HC.out (by simp only [List.length_append, List.length_cons, List.length_nil, Lib.byteCells_length, Lib.strCells_length] <;> omega) HBW.out.size).mono ?_; rintro e w1 ⟨rfl, hbl, hbb⟩; have HC := Lib.hid (isb_used hbl); have HBW := Lib.hid (HBW.out.trans hbb); clear hbl hbb) | (go_at_call 53; refine (Tryz.Builder_String_any w.heap.size w.heap.size (quL l) _ (HE.out _ HC.out) HBW.out.size).mono ?_; rintro e w1 ⟨rfl, hbb⟩; have HBW := Lib.hid (HBW.out.trans hbb); clear hbb))
      go_ret
      exact ⟨rfl, HBW.out⟩

end Go.Proofs.YtfpdnhbbbadegaaGreatDoor
