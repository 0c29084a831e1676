/- Layer 16: the order of classes; its law. -/
import Derived.Test.YthifmcnemeiphaaDoorId
namespace Go.Proofs.YthifmcnemeiphaaDoor
open Go.ChangeShapes Go.WideShapes Go.ChangeAt Go.RowKit Go.PlainAid Go.Maps
set_option linter.unusedSimpArgs false
set_option linter.unusedVariables false

theorem Rc.trans {L : List CI} {i j k : Nat} (h : Rc L i j) (h2 : Rc L j k) : Rc L i k := by
  induction h2 with
  | one he => exact .more h he
  | more _ he ih => exact .more ih he
theorem Rc.head {L : List CI} {i k : Nat} (h : Rc L i k) : ∃ j, Ed L i j := by
  induction h with
  | one he => exact ⟨_, he⟩
  | more _ _ ih => exact ih
theorem nm_place {L : List CI} {s : ByteArray} (hf : fB L s = true) : ∃ x, L[fI L s]? = some x ∧ x.nm = s ∧ lkC L s = x := by
  obtain ⟨e, hl⟩ := fI_of hf
  rw [e]
  exact ⟨L[fnd L s], List.getElem?_eq_getElem hl, fnd_nm hl, lkC_yes hl⟩
theorem eq_of_place {L : List CI} {s t : ByteArray} (hs : fB L s = true) (ht : fB L t = true) (h : fI L s = fI L t) : s = t := by
  obtain ⟨x, h1, h2, _⟩ := nm_place hs
  obtain ⟨y, k1, k2, _⟩ := nm_place ht
  rw [h, k1] at h1
  obtain rfl := Option.some.inj h1
  exact h2.symm.trans k2
theorem VH.acyc {L : List CI} (h : VH L) {s : ByteArray} (hf : fB L s = true) : ¬ Rc L (fI L s) (fI L s) := by
  obtain ⟨x, h1, _⟩ := nm_place hf
  exact (h.all h1).2.2.2.2.2.2
/-- nothing is above the root -/
theorem VH.root {L : List CI} (h : VH L) {s : ByteArray} (hf : fB L s = true) (hr : (s.toList == rootL) = true) (j : Nat) : ¬ Rc L (fI L s) j := by
  intro hrc
  obtain ⟨k, hed⟩ := hrc.head
  obtain ⟨x, h1, h2, _⟩ := nm_place hf
  have hx := h.all h1
  obtain ⟨hi, t, ht, hk, hkl⟩ := hed
  have hxe : L[fI L s] = x := by rw [List.getElem?_eq_getElem hi] at h1; exact Option.some.inj h1
  rw [hxe] at ht
  have htf := h.found h1 ht
  unfold nxt at ht
  have hse : x.su.toList = [] := by
    have := hx.2.2.1
    rw [h2, hr] at this
    cases hs : x.su.toList with
    | nil => rfl
    | cons _ _ => rw [hs] at this; cases this
  rw [if_pos hse, List.nil_append] at ht
  have h6 := hx.2.2.2.2.2.1
  rw [List.all_eq_true] at h6
  have hok := h6 t ht
  unfold ifOk at hok
  rw [Bool.and_eq_true] at hok
  obtain ⟨y, k1, k2, k3⟩ := nm_place htf
  rw [k3] at hok
  have hy := h.all k1
  have hsu := hy.2.2.2.1 hok.2
  have hsy : y.su = s := toList_iff.1 ((beq_iff_eq.1 hsu).trans (beq_iff_eq.1 hr).symm)
  have hup := h.up htf (by rw [k3, hsy]; exact hf)
  rw [k3, hsy] at hup
  have hd : Ed L (fI L s) (fI L t) := ⟨hi, t, by rw [hxe]; unfold nxt; exact List.mem_append_right _ ht, (fI_of htf).1.symm, by rw [(fI_of htf).1]; exact (fI_of htf).2⟩
  exact h.acyc hf (.more (.one hd) hup)
theorem isV_refl (L : List CI) (a : ByteArray) : isV L a a = true := by unfold isV; simp
theorem isV_iff {L : List CI} {a b : ByteArray} : isV L a b = true ↔ a = b ∨ (fB L a = true ∧ ((b.toList == rootL) = true ∨ (fB L b = true ∧ Rc L (fI L a) (fI L b)))) := by
  unfold isV
  rw [Bool.or_eq_true, Bool.and_eq_true, Bool.or_eq_true, Bool.and_eq_true, rcB_iff, beq_iff_eq, toList_iff]
theorem isV_trans {L : List CI} (h : VH L) {a b c : ByteArray} (h1 : isV L a b = true) (h2 : isV L b c = true) : isV L a c = true := by
  rw [isV_iff] at h1 h2 ⊢
  rcases h1 with rfl | ⟨ha, h1⟩
  · exact h2
  · rcases h2 with rfl | ⟨hb, h2⟩
    · exact Or.inr ⟨ha, h1⟩
    · refine Or.inr ⟨ha, ?_⟩
      rcases h2 with h2 | ⟨hc, h2⟩
      · exact Or.inl h2
      · rcases h1 with h1 | ⟨_, h1⟩
        · exact absurd h2 (h.root hb h1 _)
        · exact Or.inr ⟨hc, h1.trans h2⟩
theorem isV_anti {L : List CI} (h : VH L) {a b : ByteArray} (h1 : isV L a b = true) (h2 : isV L b a = true) : a = b := by
  rw [isV_iff] at h1 h2
  rcases h1 with rfl | ⟨ha, h1⟩
  · rfl
  · rcases h2 with rfl | ⟨hb, h2⟩
    · rfl
    · rcases h1 with h1 | ⟨_, h1⟩
      · rcases h2 with h2 | ⟨_, h2⟩
        · exact toList_iff.1 ((beq_iff_eq.1 h2).trans (beq_iff_eq.1 h1).symm)
        · exact absurd h2 (h.root hb h1 _)
      · rcases h2 with h2 | ⟨_, h2⟩
        · exact absurd h1 (h.root ha h2 _)
        · exact absurd (h1.trans h2) (h.acyc ha)
set_option maxRecDepth 100000 in
set_option maxHeartbeats 2000000 in
theorem order_law (A : Option Addr) (n c : Nat) (L : List CI) (a b d : ByteArray) (w : World) (hn : L.length = n) (hcap : n ≤ c) (hcm : c ≤ 9223372036854775807) (h : CIs w w.heap.size A L) (ha : a.size ≤ 9223372036854775807) (hb : b.size ≤ 9223372036854775807) (hd : d.size ≤ 9223372036854775807) :
    Calls Tryd.prog 5 #[.slice A n c, .string a, .string b, .string d] w fun e w' => e = .returned (.bool true) ∧ Below w.heap.size w w' := by
  have HL := Lib.hid h
  have HN := Lib.hid hn
  have HF := Lib.hid (right_any A n c L w hn hcap hcm h)
  clear h hn
  cases hs : rgB L with
  | false =>
    rw [hs] at HF
    clear hs
    go_enter Tryd.func5, Tryd.ntmps5
    go_wp2_with (first | (go_at_call 19; (with_reducible refine (HF.out).mono ?_); rintro e w1 ⟨rfl, hb1⟩; have HB1 := Lib.hid hb1; clear hb1) | (go_at_call 16; (with_reducible refine (awake16_any _).mono ?_); rintro e w2 ⟨rfl, hb2⟩; have HB2 := Lib.hid (below_on HB1.out hb2); clear hb2))
    go_ret
    exact ⟨rfl, HB2.out⟩
  | true =>
    rw [hs] at HF
    obtain ⟨hsm, hv⟩ := rgB_iff.1 hs
    have HV := Lib.hid hv
    have hn60 : n ≤ 60 := by rw [← HN.out]; exact hsm.1
    clear hs hsm hv
    have HC := Lib.hid (fun (x y : ByteArray) (W : World) (hx : x.size ≤ 9223372036854775807) (hy : y.size ≤ 9223372036854775807) (hb : Below w.heap.size w W) => sub_any A n c L x y W HN.out (by omega) (HL.out.up hb) hx hy)
    obtain ⟨r1, e1⟩ : ∃ r, isV L a b = r := ⟨_, rfl⟩
    obtain ⟨r2, e2⟩ : ∃ r, isV L b d = r := ⟨_, rfl⟩
    obtain ⟨r3, e3⟩ : ∃ r, isV L a d = r := ⟨_, rfl⟩
    obtain ⟨r4, e4⟩ : ∃ r, isV L b a = r := ⟨_, rfl⟩
    have C1 := Lib.hid (fun (W : World) (h : Below w.heap.size w W) => by have q := HC.out a b W ha hb h; rw [e1] at q; exact q)
    have C2 := Lib.hid (fun (W : World) (h : Below w.heap.size w W) => by have q := HC.out b d W hb hd h; rw [e2] at q; exact q)
    have C3 := Lib.hid (fun (W : World) (h : Below w.heap.size w W) => by have q := HC.out a d W ha hd h; rw [e3] at q; exact q)
    have C4 := Lib.hid (fun (W : World) (h : Below w.heap.size w W) => by have q := HC.out b a W hb ha h; rw [e4] at q; exact q)
    have C5 := Lib.hid (fun (W : World) (h : Below w.heap.size w W) => by have q := HC.out a a W ha ha h; rw [isV_refl] at q; exact q)
    have T1 : r1 = true → r2 = true → r3 = true := by
      rintro rfl rfl
      rw [← e3]; exact isV_trans HV.out e1 e2
    have T2 : r1 = true → r4 = true → (a.toList == b.toList) = true := by
      rintro rfl rfl
      rw [isV_anti HV.out e1 e4]; simp
    clear e1 e2 e3 e4
    go_enter Tryd.func5, Tryd.ntmps5
    go_upto_region 4 with (first | (go_at_call 19; (with_reducible refine (HF.out).mono ?_); rintro e w1 ⟨rfl, hb1⟩; have HB1 := Lib.hid hb1; clear hb1) | (go_at_call 23; (with_reducible refine (C1.out _ HB1.out).mono ?_); rintro e w2 ⟨rfl, hb2⟩; replace HB1 := Lib.hid (below_on HB1.out hb2); clear hb2) | (go_at_call 23; (with_reducible refine (C2.out _ HB1.out).mono ?_); rintro e w2 ⟨rfl, hb2⟩; replace HB1 := Lib.hid (below_on HB1.out hb2); clear hb2) | (go_at_call 23; (with_reducible refine (C3.out _ HB1.out).mono ?_); rintro e w2 ⟨rfl, hb2⟩; replace HB1 := Lib.hid (below_on HB1.out hb2); clear hb2) | (go_at_call 23; (with_reducible refine (C4.out _ HB1.out).mono ?_); rintro e w2 ⟨rfl, hb2⟩; replace HB1 := Lib.hid (below_on HB1.out hb2); clear hb2) | (go_at_call 23; (with_reducible refine (C5.out _ HB1.out).mono ?_); rintro e w2 ⟨rfl, hb2⟩; replace HB1 := Lib.hid (below_on HB1.out hb2); clear hb2))
    have fin : ∀ b : Bool, b = true → b = true := fun _ h => h
    clear C1 C2 C3 C4 HC
    cases r1 with
    | false =>
      clear T1 T2
      go_wp2_with (first | (go_at_call 16; (with_reducible refine (awake16_any _).mono ?_); rintro e w2 ⟨rfl, hb2⟩; replace HB1 := Lib.hid (below_on HB1.out hb2); clear hb2) | (go_at_call 23; (with_reducible refine (C5.out _ HB1.out).mono ?_); rintro e w2 ⟨rfl, hb2⟩; replace HB1 := Lib.hid (below_on HB1.out hb2); clear hb2))
      go_ret
      exact ⟨rfl, HB1.out⟩
    | true =>
      have T1' := T1 rfl
      have T2' := T2 rfl
      clear T1 T2
      cases r2 with
      | false =>
        clear T1'
        cases r4 with
        | false =>
          clear T2'
          go_wp2_with (first | (go_at_call 16; (with_reducible refine (awake16_any _).mono ?_); rintro e w2 ⟨rfl, hb2⟩; replace HB1 := Lib.hid (below_on HB1.out hb2); clear hb2) | (go_at_call 23; (with_reducible refine (C5.out _ HB1.out).mono ?_); rintro e w2 ⟨rfl, hb2⟩; replace HB1 := Lib.hid (below_on HB1.out hb2); clear hb2))
          go_ret
          exact ⟨rfl, HB1.out⟩
        | true =>
          have hab := T2' rfl
          clear T2'
          go_wp2_with (first | (go_at_call 16; (with_reducible refine (awake16_any _).mono ?_); rintro e w2 ⟨rfl, hb2⟩; replace HB1 := Lib.hid (below_on HB1.out hb2); clear hb2) | (go_at_call 23; (with_reducible refine (C5.out _ HB1.out).mono ?_); rintro e w2 ⟨rfl, hb2⟩; replace HB1 := Lib.hid (below_on HB1.out hb2); clear hb2))
          go_ret
          exact ⟨rfl, HB1.out⟩
      | true =>
        obtain rfl := T1' rfl
        clear T1'
        cases r4 with
        | false =>
          clear T2'
          go_wp2_with (first | (go_at_call 16; (with_reducible refine (awake16_any _).mono ?_); rintro e w2 ⟨rfl, hb2⟩; replace HB1 := Lib.hid (below_on HB1.out hb2); clear hb2) | (go_at_call 23; (with_reducible refine (C5.out _ HB1.out).mono ?_); rintro e w2 ⟨rfl, hb2⟩; replace HB1 := Lib.hid (below_on HB1.out hb2); clear hb2))
          go_ret
          exact ⟨rfl, HB1.out⟩
        | true =>
          have hab := T2' rfl
          clear T2'
          go_wp2_with (first | (go_at_call 16; (with_reducible refine (awake16_any _).mono ?_); rintro e w2 ⟨rfl, hb2⟩; replace HB1 := Lib.hid (below_on HB1.out hb2); clear hb2) | (go_at_call 23; (with_reducible refine (C5.out _ HB1.out).mono ?_); rintro e w2 ⟨rfl, hb2⟩; replace HB1 := Lib.hid (below_on HB1.out hb2); clear hb2))
          go_ret
          exact ⟨rfl, HB1.out⟩
end Go.Proofs.YthifmcnemeiphaaDoor
