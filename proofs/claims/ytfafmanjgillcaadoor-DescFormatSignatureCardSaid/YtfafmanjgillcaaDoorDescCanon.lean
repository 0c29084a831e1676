/- Layer 4: the text of what was read is what was read. No walk. -/
import Derived.Test.YtfafmanjgillcaaDoorDescRfsig
namespace Go.Proofs.YtfafmanjgillcaaDoor
open Go.ChangeShapes Go.WideShapes Go.ChangeAt Go.RowKit Go.PlainAid
set_option linter.unusedSimpArgs false
set_option linter.unusedVariables false

theorem lead_take (l : List UInt8) : l.take (lead l) = List.replicate (lead l) 91 := by
  refine List.eq_replicate_iff.2 ⟨by rw [List.length_take]; exact Nat.min_eq_left (lead_le l), fun x hx => ?_⟩
  obtain ⟨j, hj, rfl⟩ := List.getElem_of_mem hx
  rw [List.length_take] at hj
  have h := fi_lt (· != 91) l j (by unfold lead at hj; omega)
  rw [List.getElem_take]
  rw [List.getD_eq_getElem?_getD, List.getElem?_eq_getElem (by omega)] at h
  simpa using h
theorem take_one {l : List UInt8} {k : Nat} (h : k < l.length) : l.take (k + 1) = l.take k ++ [l.getD k 0] := by
  rw [List.take_add_one, List.getD_eq_getElem?_getD, List.getElem?_eq_getElem h]; rfl
theorem take_two (l : List UInt8) (k m : Nat) : l.take (k + m) = l.take k ++ (l.drop k).take m := by rw [List.take_add]
theorem valid_cases {k : Nat} {b : Int} {n : ByteArray} {c : Nat} {l : List UInt8} (hp : pre l = preOf k b n c) (h : 0 < preN l) : validB k b n = true ∧ preD l = k ∧ preB l = b ∧ preS l = n ∧ preN l = c := by
  cases hv : validB k b n with
  | true =>
    rw [pre_ok hv] at hp
    obtain ⟨p1, p2, p3, p4⟩ := pre_is hp
    exact ⟨rfl, p1, p2, p3, p4⟩
  | false =>
    rw [pre_bad hv] at hp
    obtain ⟨p1, p2, p3, p4⟩ := pre_is hp
    omega
theorem txL_prim (k : Nat) (c : UInt8) (n : ByteArray) (h : ¬ ((c.toNat : Nat) : Int) = 76) : (txt k (c.toNat : Nat) n).data.toList = List.replicate k 91 ++ [c] := txt_p k c n (fun e => h (by rw [e]; rfl))
/-- the bytes that were read are the text of what they say -/
theorem pre_text {l : List UInt8} (h : 0 < preN l) : txL (tyOf l) = l.take (preN l).toNat := by
  unfold txL tyOf
  simp only
  by_cases h1 : lead l < l.length
  · by_cases hb : ((l.getD (lead l) 0).toNat : Int) = 76
    · by_cases ht : till (l.drop (lead l + 1)) < (l.drop (lead l + 1)).length
      · obtain ⟨hv, p1, p2, p3, p4⟩ := valid_cases (pre_cls h1 hb ht) h
        rw [p1, p2, p3, p4]
        have hc : l.getD (lead l) 0 = 76 := u8_yes (c := 76) hb
        have h59 : (l.drop (lead l + 1)).getD (till (l.drop (lead l + 1))) 0 = 59 := by
          have := fi_eq (· == 59) (l.drop (lead l + 1)) ht
          unfold till; simpa using this
        rw [txt_l, Int.toNat_natCast, take_two, take_one h1, hc, lead_take, take_one ht, h59]
        simp
      · obtain ⟨p1, p2, p3, p4⟩ := pre_is (pre_open h1 hb ht)
        omega
    · obtain ⟨hv, p1, p2, p3, p4⟩ := valid_cases (pre_prim h1 hb) h
      rw [p1, p2, p3, p4, txL_prim _ _ _ hb, Int.toNat_natCast, take_one h1, lead_take]
  · obtain ⟨p1, p2, p3, p4⟩ := pre_is (pre_end h1)
    omega
theorem pre_valid {l : List UInt8} (h : 0 < preN l) : validB (preD l) (preB l) (preS l) = true := by
  rcases pre_cases l with h' | h'
  · omega
  · exact h'.2.2.1

/-- Parse, then Format -/
theorem pa_text {s : ByteArray} (h : paE s = 0) : validB (paD s) (paB s) (paS s) = true ∧ txt (paD s) (paB s) (paS s) = s := by
  by_cases hn : 0 < preN s.data.toList ∧ preN s.data.toList = s.size
  · obtain ⟨g1, g2, g3, g4⟩ := pa_ok hn
    rw [g1, g2, g3]
    refine ⟨pre_valid hn.1, ?_⟩
    have := pre_text hn.1
    rw [hn.2, Int.toNat_natCast, List.take_of_length_le (by rw [len_data]; exact Nat.le_refl _)] at this
    exact ba_ext this
  · rw [(pa_bad hn).2.2.2] at h; cases h
theorem fst_lead {s : ByteArray} (h : fst91 s = true) : 0 < lead s.data.toList := by
  rcases Nat.eq_zero_or_pos (lead s.data.toList) with h0 | h0
  · obtain ⟨hp, h91⟩ := (fst_iff s).1 h
    have := lead_not s 0 (by rw [List.drop_zero, h0]; omega)
    rw [List.drop_zero, h0] at this
    exact absurd h91 this
  · exact h0
theorem pa_dim {s : ByteArray} (h : paE s = 0) (h1 : fst91 s = true) : 0 < paD s := by
  by_cases hn : 0 < preN s.data.toList ∧ preN s.data.toList = s.size
  · rw [(pa_ok hn).1]
    have hl := fst_lead h1
    by_cases h1 : lead s.data.toList < s.data.toList.length
    · by_cases hb : ((s.data.toList.getD (lead s.data.toList) 0).toNat : Int) = 76
      · by_cases ht : till (s.data.toList.drop (lead s.data.toList + 1)) < (s.data.toList.drop (lead s.data.toList + 1)).length
        · rw [(valid_cases (pre_cls h1 hb ht) hn.1).2.1]; omega
        · have := (pre_is (pre_open h1 hb ht)).2.2.2; omega
      · rw [(valid_cases (pre_prim h1 hb) hn.1).2.1]; omega
    · have := (pre_is (pre_end h1)).2.2.2; omega
  · rw [(pa_bad hn).2.2.2] at h; cases h
/-- ParseClassConstant, then FormatClassConstant -/
theorem pc_text {s : ByteArray} (h : pcE s = 0) : fcS (pcD s) (pcB s) (pcS s) = s ∧ fcE (pcD s) (pcB s) (pcS s) = 0 ∧ (pcS s).size ≤ 140737488355328 := by
  cases hc : clsB s with
  | true =>
    obtain ⟨g1, g2, g3, g4⟩ := pc_cls hc
    rw [g1, g2, g3]
    have hv : validB 0 76 s = true := by rw [valid_in (by omega), if_neg (by omega), if_pos rfl]; exact hc
    have g := fc_cls hv (by omega) rfl
    exact ⟨g.1, g.2, by have := cls_small hc; omega⟩
  | false =>
    cases h1 : fst91 s with
    | true =>
      obtain ⟨g1, g2, g3, g4⟩ := pc_arr hc h1
      rw [g4] at h
      rw [g1, g2, g3]
      obtain ⟨hv, ht⟩ := pa_text h
      have g := fc_arr hv (pa_dim h h1)
      exact ⟨g.1.trans ht, g.2, by have := valid_name hv; omega⟩
    | false => rw [(pc_bad hc h1).2.2.2] at h; cases h

theorem step_is {l : List UInt8} (h : stepOk l = true) : 0 < preN l ∧ preB l ≠ 86 := by
  unfold stepOk at h
  rw [Bool.and_eq_true, decide_eq_true_iff] at h
  exact ⟨h.1, by simpa using h.2⟩
theorem step_ok {l : List UInt8} (h : stepOk l = true) : fsOk (tyOf l) = true := by
  obtain ⟨h1, h2⟩ := step_is h
  unfold fsOk tyOf
  simp only
  rw [pre_valid h1, decide_eq_false h2]; rfl
theorem sigP_text : ∀ (f : Nat) (l : List UInt8) (ps : List Ty) (q : List UInt8), sigP f l = some (ps, q) → l = ps.flatMap txL ++ q ∧ ps.all fsOk = true ∧ (q = [] ∨ q.getD 0 0 = 41)
  | 0, l, ps, q, h => by simp [sigP] at h
  | f + 1, [], ps, q, h => by
    simp [sigP] at h
    obtain ⟨rfl, rfl⟩ := h
    exact ⟨rfl, rfl, Or.inl rfl⟩
  | f + 1, c :: r, ps, q, h => by
    by_cases h41 : c = 41
    · simp [sigP, h41] at h
      obtain ⟨rfl, rfl⟩ := h
      exact ⟨by rw [h41]; rfl, rfl, Or.inr rfl⟩
    · cases hs : stepOk (c :: r) with
      | false => simp [sigP, h41, hs] at h
      | true =>
        rw [sigP, if_neg h41, if_pos hs] at h
        cases hr : sigP f ((c :: r).drop (preN (c :: r)).toNat) with
        | none => rw [hr] at h; cases h
        | some x =>
          obtain ⟨qs, q'⟩ := x
          rw [hr] at h
          simp only [Option.map_some, Option.some.injEq, Prod.mk.injEq] at h
          obtain ⟨rfl, rfl⟩ := h
          obtain ⟨e, ha, hq⟩ := sigP_text f _ qs q' hr
          refine ⟨?_, ?_, hq⟩
          · rw [List.flatMap_cons, pre_text (step_is hs).1, List.append_assoc, ← e, List.take_append_drop]
          · rw [List.all_cons, step_ok hs, ha]; rfl
/-- ParseSignature, then FormatSignature -/
theorem sg_text {s : ByteArray} {ps : List Ty} {r : Ty} (h : sgOf s.data.toList = (ps, r, 0)) : fsS ps r = s ∧ fsE ps r = 0 := by
  by_cases h40 : s.data.toList.getD 0 0 = 40
  · cases hp : sigP (s.data.toList.drop 1).length.succ (s.data.toList.drop 1) with
    | none => rw [sg_bad h40 hp] at h; simp at h
    | some x =>
      obtain ⟨qs, q⟩ := x
      by_cases hq : q = []
      · subst hq; rw [sg_end h40 hp] at h; simp at h
      · by_cases hr : 0 < preN (q.drop 1) ∧ preN (q.drop 1) = (q.drop 1).length
        · by_cases hm : 16 < qs.length
          · rw [sg_many h40 hp hq hr hm] at h; simp at h
          · rw [sg_ok h40 hp hq hr hm] at h
            simp only [Prod.mk.injEq] at h
            obtain ⟨rfl, rfl, _⟩ := h
            obtain ⟨e, ha, hq'⟩ := sigP_text _ _ _ _ hp
            have hv := pre_valid hr.1
            have g := fs_ok (ps := qs) (r := tyOf (q.drop 1)) hm (by rw [ha]; exact hv)
            refine ⟨g.1.trans (ba_ext ?_), g.2⟩
            have hlen := len_data s
            have hs0 : s.data.toList = 40 :: s.data.toList.drop 1 := by
              cases hl : s.data.toList with
              | nil => rw [hl] at h40; simp at h40
              | cons c l => rw [hl] at h40; simp at h40; rw [h40]; rfl
            have hq0 : q = 41 :: q.drop 1 := by
              cases q with
              | nil => exact absurd rfl hq
              | cons c l =>
                rcases hq' with hq' | hq'
                · cases hq'
                · simp at hq'; rw [hq']; rfl
            have ht := pre_text hr.1
            rw [hr.2, Int.toNat_natCast, List.take_length] at ht
            show fsL qs (tyOf (q.drop 1)) = s.data.toList
            unfold fsL
            rw [ht, hs0, e]
            congr 2
            exact hq0.symm
        · rw [sg_res h40 hp hq hr] at h; simp at h
  · rw [sg_open h40] at h; simp at h

end Go.Proofs.YtfafmanjgillcaaDoor
