/- Layer 4: desc.prefix at every string; the reference's take. -/
import Derived.Test.YthfegbhbokhlkaaDoorDescPrefix
namespace Go.Proofs.YthfegbhbokhlkaaDoor
open Go.ChangeShapes Go.WideShapes Go.ChangeAt Go.RowKit Go.PlainAid
set_option linter.unusedSimpArgs false
set_option linter.unusedVariables false

theorem name_cut (s : ByteArray) (i m : Nat) : (⟨((s.data.toList.drop i).take m).toArray⟩ : ByteArray) = s.extract i (i + m) := by
  apply ba_ext
  rw [data_extract, show i + m - i = m by omega]
theorem drop_drop' (s : ByteArray) (i k : Nat) : (s.data.toList.drop i).drop (k + 1) = s.data.toList.drop (i + k + 1) := by rw [List.drop_drop, Nat.add_assoc]

theorem prefix_any (s : ByteArray) (hs : s.size ≤ 140737488355328) (w : World) :
    Calls Tryd.prog 63 #[.string s] w fun e w' => e = .returned (.tuple #[.agg #[.int .i64 (preD s.data.toList), .int .u8 (preB s.data.toList), .string (preS s.data.toList)], .int .i64 (preN s.data.toList)]) ∧ Below w.heap.size w w' := by
  have hlen := len_data s
  have hle := lead_le s.data.toList
  have hd0 : s.data.toList.drop 0 = s.data.toList := List.drop_zero
  by_cases h : lead s.data.toList < s.data.toList.length
  · have hk : lead s.data.toList < s.size := by omega
    have h91 : ¬ bt s (lead s.data.toList) = 91 := by have := lead_not s 0 (by rw [hd0]; omega); rwa [hd0, Nat.zero_add] at this
    have hbt : ((s.data.toList.getD (lead s.data.toList) 0).toNat : Int) = bt s (lead s.data.toList) := by rw [bt_data]
    by_cases h76 : bt s (lead s.data.toList) = 76
    · by_cases ht : till (s.data.toList.drop (lead s.data.toList + 1)) < (s.data.toList.drop (lead s.data.toList + 1)).length
      · have hp := pre_cls h (by rw [hbt]; exact h76) ht
        rw [name_cut] at hp
        have htt := ht
        rw [drop_len] at htt
        cases hv : validB (lead s.data.toList) 76 (s.extract (lead s.data.toList + 1) (lead s.data.toList + 1 + till (s.data.toList.drop (lead s.data.toList + 1)))) with
        | true =>
          rw [pre_ok hv] at hp
          obtain ⟨p1, p2, p3, p4⟩ := pre_is hp
          rw [p1, p2, p3, p4]
          exact prefix_cls_ok s _ hs rfl _ hk h76 rfl (by omega) hv w
        | false =>
          rw [pre_bad hv] at hp
          obtain ⟨p1, p2, p3, p4⟩ := pre_is hp
          rw [p1, p2, p3, p4]
          exact prefix_cls_bad s _ hs rfl _ hk h76 rfl (by omega) hv w
      · obtain ⟨p1, p2, p3, p4⟩ := pre_is (pre_open h (by rw [hbt]; exact h76) ht)
        rw [p1, p2, p3, p4]
        exact prefix_open s _ hs rfl hk h76 ht w
    · have hp := pre_prim h (by rw [hbt]; exact h76)
      rw [hbt] at hp
      cases hv : validB (lead s.data.toList) (bt s (lead s.data.toList)) ⟨#[]⟩ with
      | true =>
        rw [pre_ok hv] at hp
        obtain ⟨p1, p2, p3, p4⟩ := pre_is hp
        rw [p1, p2, p3, p4]
        exact prefix_prim_ok s _ hs rfl hk h91 h76 hv w
      | false =>
        rw [pre_bad hv] at hp
        obtain ⟨p1, p2, p3, p4⟩ := pre_is hp
        rw [p1, p2, p3, p4]
        exact prefix_prim_bad s _ hs rfl hk h91 h76 hv w
  · obtain ⟨p1, p2, p3, p4⟩ := pre_is (pre_end h)
    rw [p1, p2, p3, p4]
    exact prefix_end s _ hs rfl (by omega) w

end Go.Proofs.YthfegbhbokhlkaaDoor
