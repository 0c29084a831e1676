/- Layer 3: what class names are made of. -/
import Derived.Test.YtfafmanjgillcaaDoorNameJoin
import Derived.Laws.BytesArg
namespace Go.Proofs.YtfafmanjgillcaaDoor
open Go.ChangeShapes Go.WideShapes Go.ChangeAt Go.RowKit Go.PlainAid
set_option linter.unusedSimpArgs false
set_option linter.unusedVariables false

theorem below_al {w W : World} (h : Below w.heap.size w W) (o : Obj) : Below w.heap.size w (W.alloc o) := h.alloc h.size _

/-! ### what a class name is made of -/
theorem piece_of : ∀ (l : List UInt8) (x : UInt8), x ∈ l → x ≠ 47 → ∃ p ∈ pieces l, x ∈ p
  | [], x, h, _ => by cases h
  | c :: l, x, h, hx => by
    rw [pieces_cons]
    by_cases hc : c = 47
    · rw [if_pos hc]
      rcases List.mem_cons.1 h with rfl | h'
      · exact absurd hc hx
      · obtain ⟨p, hp, hm⟩ := piece_of l x h' hx
        exact ⟨p, List.mem_cons_of_mem _ hp, hm⟩
    · rw [if_neg hc]
      cases hl : pieces l with
      | nil => exact absurd hl (pieces_ne l)
      | cons q qs =>
        simp only
        rcases List.mem_cons.1 h with rfl | h'
        · exact ⟨_, List.mem_cons_self .., List.mem_cons_self ..⟩
        · obtain ⟨p, hp, hm⟩ := piece_of l x h' hx
          rw [hl] at hp
          rcases List.mem_cons.1 hp with rfl | hp'
          · exact ⟨_, List.mem_cons_self .., List.mem_cons_of_mem _ hm⟩
          · exact ⟨p, List.mem_cons_of_mem _ hp', hm⟩
theorem ok_chars (l : List UInt8) (h : okL l = true) : ∀ x ∈ l, nameB x = true := by
  cases l with
  | nil => intro x hx; cases hx
  | cons c l =>
    rw [okL, Bool.and_eq_true] at h
    intro x hx
    rcases List.mem_cons.1 hx with rfl | hx
    · unfold nameB; rw [h.1]; rfl
    · exact List.all_eq_true.1 h.2 x hx
theorem cls_chars (l : List UInt8) (h : clsL l = true) : ∀ x ∈ l, x ≠ 47 → nameB x = true := by
  intro x hx h47
  obtain ⟨p, hp, hm⟩ := piece_of l x hx h47
  exact ok_chars p (List.all_eq_true.1 h p hp) x hm
theorem cls_foreign (l : List UInt8) (x : UInt8) (hx : x ∈ l) (h47 : x ≠ 47) (hn : nameB x = false) : clsL l = false := by
  cases h : clsL l with
  | false => rfl
  | true => rw [cls_chars l h x hx h47] at hn; cases hn
theorem clsB_of {s : ByteArray} (h : clsL s.data.toList = false) : clsB s = false := by unfold clsB; rw [h, Bool.and_false]

def one (c : Int) : ByteArray := strOfNums [c]
theorem one_data (c : Int) : (one c).data.toList = [c.toNat.toUInt8] := by unfold one; rw [strOfNums_data]; rfl

theorem cls_glued (s t : ByteArray) (hs : clsB s = true) (ht : clsB t = true) : clsB (s ++ ⟨#[47]⟩ ++ t) = decide ((s.size : Int) + t.size + 1 ≤ 64) := by
  unfold clsB at hs ht ⊢
  rw [Bool.and_eq_true] at hs ht
  have e : (s ++ ⟨#[47]⟩ ++ t : ByteArray).data.toList = s.data.toList ++ 47 :: t.data.toList := by rw [app_data, app_data, List.append_assoc]; rfl
  rw [e, cls_app, hs.2, ht.2, ByteArray.size_append, ByteArray.size_append, Bool.and_true, Bool.and_true]
  have h1 : (⟨#[47]⟩ : ByteArray).size = 1 := rfl
  rw [h1]
  exact decide_eq_decide.2 (by omega)
theorem cls_double (s t : ByteArray) : clsB (s ++ ⟨#[47, 47]⟩ ++ t) = false := by
  refine clsB_of ?_
  have e : (s ++ ⟨#[47, 47]⟩ ++ t : ByteArray).data.toList = s.data.toList ++ 47 :: ([] ++ 47 :: t.data.toList) := by rw [app_data, app_data, List.append_assoc]; rfl
  rw [e, cls_app, cls_app, cls_nil, Bool.false_and, Bool.and_false]
theorem cls_with (s t u : ByteArray) (x : UInt8) (hu : x ∈ u.data.toList) (h47 : x ≠ 47) (hn : nameB x = false) : clsB (s ++ u ++ t) = false := by
  refine clsB_of (cls_foreign _ x ?_ h47 hn)
  rw [app_data, app_data]
  exact List.mem_append_left _ (List.mem_append_right _ hu)
theorem cls_blank (s t : ByteArray) : clsB (s ++ ⟨#[32]⟩ ++ t) = false := cls_with s t _ 32 (by simp) (by decide) (by decide)

/-- a byte that no class name has -/
def foreignB (c : Int) : Prop := c ≠ 47 ∧ c ≠ 95 ∧ c ≠ 36 ∧ ¬ (48 ≤ c ∧ c ≤ 57) ∧ ¬ (97 ≤ c ∧ c ≤ 122) ∧ ¬ (65 ≤ c ∧ c ≤ 90)
theorem u8_nat {c : Int} (hc : 0 ≤ c ∧ c ≤ 255) : ((c.toNat.toUInt8).toNat : Int) = c := by
  rw [UInt8.toNat_ofNat']
  omega
theorem foreign_byte {c : Int} (hc : 0 ≤ c ∧ c ≤ 255) (h : foreignB c) : c.toNat.toUInt8 ≠ 47 ∧ nameB c.toNat.toUInt8 = false := by
  have e := u8_nat hc
  unfold foreignB at h
  refine ⟨fun h47 => ?_, ?_⟩
  · rw [h47] at e
    have : ((47 : UInt8).toNat : Int) = 47 := rfl
    omega
  · unfold nameB letB digB
    rw [e, Bool.or_eq_false_iff, decide_eq_false_iff_not, decide_eq_false_iff_not]
    omega
theorem cls_odd (s t : ByteArray) {c : Int} (hc : 0 ≤ c ∧ c ≤ 255) (h : foreignB c) : clsB (s ++ one c ++ t) = false :=
  cls_with s t _ _ (by rw [one_data]; exact List.mem_singleton.2 rfl) (foreign_byte hc h).1 (foreign_byte hc h).2
theorem mem_odd (s t : ByteArray) {c : Int} (hc : 0 ≤ c ∧ c ≤ 255) (h : foreignB c) (h60 : c ≠ 60) (h62 : c ≠ 62) : memB (s ++ one c ++ t) = false := by
  have hm : c.toNat.toUInt8 ∈ (s ++ one c ++ t).data.toList := by
    rw [app_data, app_data, one_data]
    exact List.mem_append_left _ (List.mem_append_right _ (List.mem_singleton.2 rfl))
  have e := u8_nat hc
  obtain ⟨_, hn⟩ := foreign_byte hc h
  have no : ∀ l : List UInt8, (∀ y ∈ l, y = 60 ∨ y = 62 ∨ nameB y = true) → ((s ++ one c ++ t).toList == l) = false := fun l hl => by
    rw [beq_eq_false_iff_ne, Lib.toList_data]
    intro he
    rw [he] at hm
    rcases hl _ hm with h1 | h1 | h1
    · rw [h1] at e
      have : ((60 : UInt8).toNat : Int) = 60 := rfl
      omega
    · rw [h1] at e
      have : ((62 : UInt8).toNat : Int) = 62 := rfl
      omega
    · rw [hn] at h1; cases h1
  have hid : idB (s ++ one c ++ t) = false := by
    cases hh : idB (s ++ one c ++ t) with
    | false => rfl
    | true => rw [ok_chars _ hh _ hm] at hn; cases hn
  unfold memB
  rw [no _ (by decide), no _ (by decide), hid]
  simp
theorem three_chars {c : Int} (hc : 0 ≤ c ∧ c ≤ 255) : (0 ≤ Lib.indexByte [47, 95, 36] c.toNat.toUInt8) ↔ (c = 47 ∨ c = 95 ∨ c = 36) := by
  have e := u8_nat hc
  generalize c.toNat.toUInt8 = x at *
  have hx : ∀ y : UInt8, (y == x) = decide ((y.toNat : Int) = c) := fun y => by
    rw [← e]
    by_cases h : y = x
    · subst h; simp
    · have : ¬ (y.toNat : Int) = x.toNat := fun h2 => h (UInt8.toNat_inj.1 (by omega))
      simp [h, this]
  unfold Lib.indexByte Lib.indexByte Lib.indexByte Lib.indexByte
  rw [hx, hx, hx, show ((47 : UInt8).toNat : Int) = 47 from rfl, show ((95 : UInt8).toNat : Int) = 95 from rfl, show ((36 : UInt8).toNat : Int) = 36 from rfl]
  by_cases h1 : c = 47
  · subst h1; simp
  · by_cases h2 : c = 95
    · subst h2; simp
    · by_cases h3 : c = 36
      · subst h3; simp
      · have n1 : ¬ (47 : Int) = c := fun h => h1 h.symm
        have n2 : ¬ (95 : Int) = c := fun h => h2 h.symm
        have n3 : ¬ (36 : Int) = c := fun h => h3 h.symm
        simp [h1, h2, h3, n1, n2, n3]

theorem conv_one (c : Int) (w : World) :
    (convert 27 9 (.slice (some ⟨w.heap.size, 0, none⟩) 1 1)).run Tryd.prog (w.alloc (.cells #[.int .u8 c] 5)) = .ok (.string (one c)) (w.alloc (.cells #[.int .u8 c] 5)) := by
  refine run_convert_bytes_arg (P := Tryd.prog) (w.alloc (.cells #[.int .u8 c] 5)) 27 5 Tryd.underlying27 Tryd.underlying5 w.heap.size 0 1 1 [c] rfl ?_ 9 Tryd.underlying9
  intro i hi
  obtain rfl : i = 0 := by omega
  exact (cell_of_box (World.alloc_heap_new w _)).1

end Go.Proofs.YtfafmanjgillcaaDoor
