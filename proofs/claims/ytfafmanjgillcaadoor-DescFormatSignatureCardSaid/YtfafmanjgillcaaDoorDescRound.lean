/- Layer 4: what the text of a valid type reads as. No walk. -/
import Derived.Test.YtfafmanjgillcaaDoorDescSame
namespace Go.Proofs.YtfafmanjgillcaaDoor
open Go.ChangeShapes Go.WideShapes Go.ChangeAt Go.RowKit Go.PlainAid
set_option linter.unusedSimpArgs false
set_option linter.unusedVariables false

theorem piece_of : ∀ (l : List UInt8) (x : UInt8), x ∈ l → x ≠ 47 → ∃ p ∈ pieces l, x ∈ p
  | [], x, h, _ => by cases h
  | c :: l, x, h, hx => by
    rw [pieces_cons]
    by_cases hc : c = 47
    · rw [if_pos hc]
      rcases List.mem_cons.1 h with rfl | h'
      · exact absurd hc hx
      · obtain ⟨p, hp, hm⟩ := piece_of l x h' hx
        exact ⟨p, List.mem_cons_of_mem _ hp, hm⟩
    · rw [if_neg hc]
      cases hl : pieces l with
      | nil => exact absurd hl (pieces_ne l)
      | cons q qs =>
        simp only
        rcases List.mem_cons.1 h with rfl | h'
        · exact ⟨_, List.mem_cons_self .., List.mem_cons_self ..⟩
        · obtain ⟨p, hp, hm⟩ := piece_of l x h' hx
          rw [hl] at hp
          rcases List.mem_cons.1 hp with rfl | hp'
          · exact ⟨_, List.mem_cons_self .., List.mem_cons_of_mem _ hm⟩
          · exact ⟨p, List.mem_cons_of_mem _ hp', hm⟩
theorem ok_chars (l : List UInt8) (h : okL l = true) : ∀ x ∈ l, nameB x = true := by
  cases l with
  | nil => intro x hx; cases hx
  | cons c l =>
    rw [okL, Bool.and_eq_true] at h
    intro x hx
    rcases List.mem_cons.1 hx with rfl | hx
    · unfold nameB; rw [h.1]; rfl
    · exact List.all_eq_true.1 h.2 x hx
theorem cls_chars (l : List UInt8) (h : clsL l = true) : ∀ x ∈ l, x ≠ 47 → nameB x = true := by
  intro x hx h47
  obtain ⟨p, hp, hm⟩ := piece_of l x hx h47
  exact ok_chars p (List.all_eq_true.1 h p hp) x hm
theorem cls_not (n : ByteArray) (c : UInt8) (h : clsB n = true) (h47 : c ≠ 47) (hc : nameB c = false) : ∀ x ∈ n.data.toList, x ≠ c := by
  unfold clsB at h
  rw [Bool.and_eq_true] at h
  rintro x hx rfl
  rw [cls_chars _ h.2 x hx h47] at hc
  cases hc
theorem cls_small {n : ByteArray} (h : clsB n = true) : n.size ≤ 64 := by
  unfold clsB at h
  rw [Bool.and_eq_true, decide_eq_true_iff] at h
  exact h.1

theorem lead_rep (k : Nat) (b : UInt8) (r : List UInt8) (hb : b ≠ 91) : lead (List.replicate k 91 ++ b :: r) = k := by
  unfold lead
  induction k with
  | zero =>
    have : (b != 91) = true := by simpa using hb
    rw [List.replicate_zero, List.nil_append, List.findIdx_cons, this]; rfl
  | succ k ih => rw [List.replicate_succ, List.cons_append, List.findIdx_cons, ih]; rfl
theorem till_app (n : List UInt8) (r : List UInt8) (h : ∀ x ∈ n, x ≠ 59) : till (n ++ 59 :: r) = n.length := by
  unfold till
  induction n with
  | nil => rw [List.nil_append, List.findIdx_cons]; rfl
  | cons c n ih =>
    have hc : (c == 59) = false := by simpa using h c (List.mem_cons_self ..)
    rw [List.cons_append, List.findIdx_cons, ih (fun x hx => h x (List.mem_cons_of_mem _ hx)), hc]; rfl
theorem rep_hd (k : Nat) (b : UInt8) (r : List UInt8) : (List.replicate k 91 ++ b :: r).getD k 0 = b := by
  rw [List.getD_eq_getElem?_getD, List.getElem?_append_right (by simp)]
  simp
theorem rep_tl (k : Nat) (b : UInt8) (r : List UInt8) : (List.replicate k 91 ++ b :: r).drop (k + 1) = r := by
  rw [List.drop_append, List.length_replicate, List.drop_of_length_le (by simp), Nat.add_sub_cancel_left]; rfl
/-- a descriptor ahead of whatever is read as what it says -/
theorem pre_txt (k : Nat) (b : UInt8) (n : ByteArray) (r : List UInt8) (hv : validB k b.toNat n = true) (hb : b ≠ 76) : pre (List.replicate k 91 ++ b :: r) = ((k : Int), (b.toNat : Int), (⟨#[]⟩ : ByteArray), ((k + 1 : Nat) : Int)) ∧ n = ⟨#[]⟩ := by
  have hbase := valid_base hv
  have h91 : b ≠ 91 := by rintro rfl; revert hbase; decide
  have h76 : ¬ ((b.toNat : Nat) : Int) = 76 := fun e => hb (u8_yes (c := 76) e)
  have hn : n = ⟨#[]⟩ := by
    have h := hv
    rw [valid_in (valid_bd hv)] at h
    by_cases h1 : ((b.toNat : Nat) : Int) = 73 ∨ ((b.toNat : Nat) : Int) = 74
    · rw [if_pos h1, Lib.toList_data] at h
      exact ba_ext (by simpa using h)
    · rw [if_neg h1, if_neg h76, if_pos (by omega), Bool.and_eq_true, Lib.toList_data] at h
      exact ba_ext (by simpa using h.2)
  refine ⟨?_, hn⟩
  have hl := lead_rep k b r h91
  have hp := pre_prim (l := List.replicate k 91 ++ b :: r) (by rw [hl]; simp) (by rw [hl, rep_hd]; exact h76)
  rw [hp, hl, rep_hd]
  rw [hn] at hv
  rw [pre_ok hv]
theorem pre_cls_txt (k : Nat) (n : ByteArray) (r : List UInt8) (hv : validB k 76 n = true) : pre (List.replicate k 91 ++ 76 :: (n.data.toList ++ 59 :: r)) = ((k : Int), (76 : Int), n, ((k + 1 + (n.size + 1) : Nat) : Int)) := by
  have hc : clsB n = true := by rw [valid_in (valid_bd hv), if_neg (by omega), if_pos rfl] at hv; exact hv
  have hl := lead_rep k 76 (n.data.toList ++ 59 :: r) (by decide)
  have ht := till_app n.data.toList r (cls_not n 59 hc (by decide) (by decide))
  have hp := pre_cls (l := List.replicate k 91 ++ 76 :: (n.data.toList ++ 59 :: r)) (by rw [hl]; simp) (by rw [hl, rep_hd]; rfl) (by rw [hl, rep_tl, ht]; simp)
  rw [hp, hl, rep_tl, ht, List.take_left]
  have e : (⟨n.data.toList.toArray⟩ : ByteArray) = n := by cases n; rfl
  rw [e, len_data, pre_ok hv]

theorem app_data (s t : ByteArray) : (s ++ t).data.toList = s.data.toList ++ t.data.toList := by simp
theorem bars_data (k : Nat) : (bars k).data.toList = List.replicate k 91 := by unfold bars; simp
theorem valid_u8 {d b : Int} {n : ByteArray} (hv : validB d b n = true) : ∃ (k : Nat) (c : UInt8), d = k ∧ b = c.toNat := by
  have hd := valid_bd hv
  have hb := valid_base hv
  obtain ⟨k, rfl⟩ := Int.eq_ofNat_of_zero_le hd.1
  rcases hb with rfl | rfl | rfl | rfl
  · exact ⟨k, 73, rfl, rfl⟩
  · exact ⟨k, 74, rfl, rfl⟩
  · exact ⟨k, 76, rfl, rfl⟩
  · exact ⟨k, 86, rfl, rfl⟩
theorem txt_l (k : Nat) (n : ByteArray) : (txt k 76 n).data.toList = List.replicate k 91 ++ 76 :: (n.data.toList ++ 59 :: []) := by
  unfold txt
  rw [if_pos rfl, app_data, app_data, app_data, Int.toNat_natCast, bars_data, List.append_assoc]; rfl
theorem txt_p (k : Nat) (c : UInt8) (n : ByteArray) (h : c ≠ 76) : (txt k c.toNat n).data.toList = List.replicate k 91 ++ c :: [] := by
  unfold txt
  rw [if_neg (show ¬ ((c.toNat : Nat) : Int) = 76 from fun e => h (u8_yes (c := 76) e)), app_data, Int.toNat_natCast, bars_data, Int.toNat_natCast]
  congr 1
  simp
/-- the text of a valid type, ahead of whatever -/
theorem pre_of {d b : Int} {n : ByteArray} (r : List UInt8) (hv : validB d b n = true) : pre ((txt d b n).data.toList ++ r) = (d, b, n, ((txt d b n).size : Int)) := by
  obtain ⟨k, c, rfl, rfl⟩ := valid_u8 hv
  by_cases hc : c = 76
  · subst hc
    have hs : (txt k ((76 : UInt8).toNat : Nat) n).size = k + 1 + (n.size + 1) := by
      rw [← len_data]
      show (txt k 76 n).data.toList.length = _
      rw [txt_l]; simp; omega
    rw [hs]
    show pre ((txt k 76 n).data.toList ++ r) = _
    rw [txt_l, List.append_assoc, List.cons_append, List.append_assoc]
    exact pre_cls_txt k n r hv
  · obtain ⟨h1, h2⟩ := pre_txt k c n r hv hc
    have hs : (txt k (c.toNat : Nat) n).size = k + 1 := by rw [← len_data, txt_p k c n hc]; simp
    rw [hs, txt_p k c n hc, List.append_assoc]
    subst h2
    exact h1
theorem pa_of {d b : Int} {n : ByteArray} (hv : validB d b n = true) : paD (txt d b n) = d ∧ paB (txt d b n) = b ∧ paS (txt d b n) = n ∧ paE (txt d b n) = 0 := by
  have h := pre_of [] hv
  rw [List.append_nil] at h
  obtain ⟨p1, p2, p3, p4⟩ := pre_is h
  have hpos : 0 < (txt d b n).size := by
    unfold txt
    split
    · simp only [ByteArray.size_append]; have : (⟨#[76]⟩ : ByteArray).size = 1 := rfl; omega
    · simp only [ByteArray.size_append]; have : (⟨#[b.toNat.toUInt8]⟩ : ByteArray).size = 1 := rfl; omega
  have g := pa_ok (s := txt d b n) (by rw [p4]; omega)
  rw [p1, p2, p3] at g
  exact g
theorem txt_size {d b : Int} {n : ByteArray} (hv : validB d b n = true) : (txt d b n).size ≤ n.size + 10 := by
  have hd := valid_bd hv
  unfold txt
  split
  · simp only [ByteArray.size_append, bars_size]; have : (⟨#[76]⟩ : ByteArray).size = 1 := rfl; have : (⟨#[59]⟩ : ByteArray).size = 1 := rfl; omega
  · simp only [ByteArray.size_append, bars_size]; have : (⟨#[b.toNat.toUInt8]⟩ : ByteArray).size = 1 := rfl; omega
/-- the class constant of a type reads as the type -/
theorem pc_of {d b : Int} {n : ByteArray} (h0 : fcE d b n = 0) : pcD (fcS d b n) = d ∧ pcB (fcS d b n) = b ∧ pcS (fcS d b n) = n ∧ pcE (fcS d b n) = 0 := by
  cases hv : validB d b n with
  | false => rw [(fc_bad hv).2] at h0; cases h0
  | true =>
    have hd := valid_bd hv
    by_cases hp : 0 < d
    · rw [(fc_arr hv hp).1]
      obtain ⟨k, rfl⟩ := Int.eq_ofNat_of_zero_le hd.1
      have hk : 0 < k := by omega
      have h91 : ∃ r, (txt k b n).data.toList = 91 :: r := by
        obtain ⟨j, rfl⟩ := Nat.exists_eq_succ_of_ne_zero (by omega : k ≠ 0)
        obtain ⟨_, c, _, rfl⟩ := valid_u8 hv
        by_cases hc : c = 76
        · subst hc; exact ⟨_, (txt_l (j + 1) n).trans (by rw [List.replicate_succ]; rfl)⟩
        · exact ⟨_, (txt_p (j + 1) c n hc).trans (by rw [List.replicate_succ]; rfl)⟩
      obtain ⟨r, hr⟩ := h91
      have hcl : clsB (txt k b n) = false := by
        cases hc : clsB (txt k b n) with
        | false => rfl
        | true => exact absurd rfl (cls_not _ 91 hc (by decide) (by decide) 91 (by rw [hr]; exact List.mem_cons_self ..))
      have hf : fst91 (txt k b n) = true := by unfold fst91 Lib.hasPrefix; rw [hr]; simp
      have g := pc_arr hcl hf
      have g' := pa_of hv
      rw [g'.1, g'.2.1, g'.2.2.1, g'.2.2.2] at g
      exact g
    · by_cases hb : b = 76
      · subst hb
        rw [(fc_cls hv hp rfl).1]
        have hc : clsB n = true := by rw [valid_in hd, if_neg (by omega), if_pos rfl] at hv; exact hv
        have g := pc_cls hc
        obtain rfl : d = 0 := by omega
        exact g
      · rw [(fc_prim hv hp hb).2] at h0; cases h0

end Go.Proofs.YtfafmanjgillcaaDoor
