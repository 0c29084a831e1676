/- Layer 5: what holds in a valid pool. No walk. -/
import Derived.Test.YthfegbhbokhlkaaGreatDoorPoolCheck
import Derived.Test.YthfegbhbokhlkaaGreatDoorPoolHas
namespace Go.Proofs.YthfegbhbokhlkaaGreatDoor
set_option linter.unusedSimpArgs false
set_option linter.unusedVariables false

def Valid (L : List Cn) : Prop := ∀ c ∈ L, ck L c = 0
theorem bad_none {L : List Cn} (h : Valid L) : badN L = L.length := by
  unfold badN
  rw [List.findIdx_eq_length]
  intro c hc
  simp [h c hc]
theorem bad_all {L : List Cn} (h : ¬ badN L < L.length) : Valid L := by
  have e : badN L = L.length := Nat.le_antisymm (bad_le L) (by omega)
  unfold badN at e
  rw [List.findIdx_eq_length] at e
  intro c hc
  have := e c hc
  simpa using this
theorem ch_valid {L : List Cn} (h : L.length ≤ 1000) (hv : Valid L) : chI L = 0 ∧ chE L = 0 := ch_3 (by omega) (by rw [bad_none hv]; omega)
theorem ch_zero {L : List Cn} (h : chE L = 0) : L.length ≤ 1000 ∧ Valid L := by
  by_cases h1 : 1000 < L.length
  · rw [(ch_1 h1).2] at h; cases h
  · refine ⟨by omega, ?_⟩
    by_cases h2 : badN L < L.length
    · rw [(ch_2 h1 h2).2] at h
      have hg := List.findIdx_getElem (p := fun c => ck L c != 0) (xs := L) (w := h2)
      rw [List.getD_eq_getElem?_getD, List.getElem?_eq_getElem h2] at h
      have h' : ck L (L[badN L]'h2) = 0 := h
      have hg' : (ck L (L[badN L]'h2) != 0) = true := hg
      rw [h'] at hg'
      cases hg'
    · exact bad_all h2
/-- no constant is too many -/
theorem tg_not5 (L : List Cn) (i t : Int) : ¬ tgE L i t = 5 := by
  unfold tgE
  rcases at_e L i with h | h <;> rw [h]
  · rw [if_pos rfl]; split <;> decide
  · rw [if_neg (by decide)]; decide
theorem ntx_not5 (n d : ByteArray) : ¬ ntxE n d = 5 := by unfold ntxE; split <;> (try split) <;> decide
theorem mb_not5 (t : Int) (n d : ByteArray) : ¬ mbE t n d = 5 := by
  unfold mbE
  repeat' split
  all_goals decide
theorem mtx_not5 (L : List Cn) (t b : Int) : ¬ mtx L t b = 5 := by
  unfold mtx
  split
  · exact mb_not5 _ _ _
  · decide
theorem tx_not5 (L : List Cn) (t a b : Int) : ¬ txE L t a b = 5 := by
  unfold txE
  split
  · rcases pc_e (tgC L a 1).s with h | h <;> rw [h] <;> decide
  · split
    · exact ntx_not5 _ _
    · split
      · exact mtx_not5 _ _ _
      · decide
theorem bx_not5 (L : List Cn) (t a b : Int) : ¬ bxE L t a b = 5 := by
  unfold bxE
  repeat' split
  all_goals exact tg_not5 _ _ _
theorem ck_not5 (L : List Cn) (c : Cn) : ¬ ck L c = 5 := by
  unfold ck ckE ixE
  repeat' split
  all_goals first | decide | exact tx_not5 _ _ _ _ | exact bx_not5 _ _ _ _

/-! ### a longer pool reads the same -/
theorem at_range {L : List Cn} {i : Int} (h : atE L i = 0) : 1 ≤ i ∧ i ≤ L.length := by
  by_cases h1 : 1 ≤ i ∧ i ≤ L.length
  · exact h1
  · rw [(at_out h1).2] at h; cases h
theorem at_pre {L M : List Cn} {i : Int} (k : Pre L M) (h : atE L i = 0) : atE M i = 0 ∧ atC M i = atC L i := by
  have hr := at_range h
  obtain ⟨t, rfl⟩ := k
  have hr' : 1 ≤ i ∧ i ≤ (L ++ t).length := ⟨hr.1, by rw [List.length_append]; omega⟩
  unfold atE atC
  rw [if_pos hr', if_pos hr', if_pos hr, List.getD_eq_getElem?_getD, List.getD_eq_getElem?_getD, List.getElem?_append_left (by omega)]
  exact ⟨rfl, rfl⟩
theorem tg_pre {L M : List Cn} {i t : Int} (k : Pre L M) (h : tgE L i t = 0) : tgE M i t = 0 ∧ tgC M i t = tgC L i t := by
  have ha : atE L i = 0 := by
    rcases at_e L i with h1 | h1
    · exact h1
    · rw [(tg_1 (by rw [h1]; decide)).2, h1] at h; cases h
  obtain ⟨e1, e2⟩ := at_pre k ha
  have ht : (atC L i).t = t := by
    by_cases h2 : (atC L i).t = t
    · exact h2
    · rw [(tg_2 ha h2).2] at h; cases h
  obtain ⟨a, b⟩ := tg_3 ha ht
  obtain ⟨a', b'⟩ := tg_3 (L := M) (i := i) (t := t) e1 (by rw [e2]; exact ht)
  exact ⟨b', by rw [a', a, e2]⟩
theorem nt_tg {L : List Cn} {i : Int} (h : ntE L i = 0) : tgE L i 12 = 0 ∧ tgE L (tgC L i 12).a 1 = 0 ∧ tgE L (tgC L i 12).b 1 = 0 := by
  by_cases h1 : tgE L i 12 = 0
  · by_cases h2 : tgE L (tgC L i 12).a 1 = 0
    · by_cases h3 : tgE L (tgC L i 12).b 1 = 0
      · exact ⟨h1, h2, h3⟩
      · rw [(nt_3 h1 h2 h3).2.2] at h; exact absurd h h3
    · rw [(nt_2 h1 h2).2.2] at h; exact absurd h h2
  · rw [(nt_1 h1).2.2] at h; exact absurd h h1
theorem nt_pre {L M : List Cn} {i : Int} (k : Pre L M) (h : ntE L i = 0) : ntE M i = 0 ∧ ntN M i = ntN L i ∧ ntD M i = ntD L i := by
  obtain ⟨h1, h2, h3⟩ := nt_tg h
  obtain ⟨a1, b1⟩ := tg_pre k h1
  obtain ⟨a2, b2⟩ := tg_pre k h2
  obtain ⟨a3, b3⟩ := tg_pre k h3
  obtain ⟨x, y, z⟩ := nt_4 h1 h2 h3
  obtain ⟨x', y', z'⟩ := nt_4 (L := M) (i := i) a1 (by rw [b1]; exact a2) (by rw [b1]; exact a3)
  exact ⟨z', by rw [x', x, b1, b2], by rw [y', y, b1, b3]⟩

/-! ### what a sound constant says -/
theorem ck_parts {L : List Cn} {c : Cn} (h : ck L c = 0) : knB c.t = true ∧ fmB c.t c.s c.n c.a c.b = true := by
  unfold ck at h
  cases hk : knB c.t with
  | false => rw [ck_un hk] at h; cases h
  | true =>
    cases hf : fmB c.t c.s c.n c.a c.b with
    | false => rw [ck_mal hk hf] at h; cases h
    | true => exact ⟨rfl, rfl⟩
theorem ck_idx {L : List Cn} {c : Cn} (h : ck L c = 0) (ht : 7 ≤ c.t) : bxE L c.t c.a c.b = 0 ∧ txE L c.t c.a c.b = 0 := by
  obtain ⟨hk, hf⟩ := ck_parts h
  unfold ck at h
  rw [ck_ix ht hk hf] at h
  by_cases hb : bxE L c.t c.a c.b = 0
  · rw [ix_ok hb] at h; exact ⟨hb, h⟩
  · rw [ix_bad hb] at h; exact absurd h hb
theorem bx12 {L : List Cn} {a b : Int} (h : bxE L 12 a b = 0) : tgE L a 1 = 0 ∧ tgE L b 1 = 0 := by
  by_cases h1 : tgE L a 1 = 0
  · rw [bx12_2 h1] at h; exact ⟨h1, h⟩
  · rw [bx12_1 h1] at h; exact absurd h h1
theorem bxm {L : List Cn} {t a b : Int} (ht : 9 ≤ t ∧ t ≤ 11) (h : bxE L t a b = 0) : tgE L a 7 = 0 ∧ tgE L b 12 = 0 := by
  by_cases h1 : tgE L a 7 = 0
  · rw [bxm_2 ht h1] at h; exact ⟨h1, h⟩
  · rw [bxm_1 ht h1] at h; exact absurd h h1
theorem tg_mem {L : List Cn} {i t : Int} (h : tgE L i t = 0) : tgC L i t ∈ L ∧ (tgC L i t).t = t := by
  obtain ⟨k, p, hi, hl, hg, hc⟩ := tg_here h
  rw [hc]
  refine ⟨List.mem_of_getElem? hg, ?_⟩
  have ha : atE L i = 0 := by
    rcases at_e L i with h1 | h1
    · exact h1
    · rw [(tg_1 (by rw [h1]; decide)).2, h1] at h; cases h
  by_cases h2 : (atC L i).t = t
  · rw [← hc, (tg_3 ha h2).1]; exact h2
  · rw [(tg_2 ha h2).2] at h; cases h
/-- in a valid pool a name and type that stands can be read -/
theorem v_nt {L : List Cn} (hv : Valid L) {i : Int} (h : tgE L i 12 = 0) : ntE L i = 0 := by
  obtain ⟨hm, ht⟩ := tg_mem h
  have hc := ck_idx (hv _ hm) (by rw [ht]; decide)
  rw [ht] at hc
  obtain ⟨h1, h2⟩ := bx12 hc.1
  exact (nt_4 h h1 h2).2.2
theorem v_nm {L : List Cn} (hv : Valid L) {i t : Int} (htt : t = 7 ∨ t = 8) (h : tgE L i t = 0) : nmE L i t = 0 := by
  obtain ⟨hm, ht⟩ := tg_mem h
  have hc := ck_idx (hv _ hm) (by rw [ht]; omega)
  rw [ht] at hc
  have h1 : tgE L (tgC L i t).a 1 = 0 := by
    rcases htt with rfl | rfl
    · have := hc.1; rwa [bx7] at this
    · have := hc.1; rwa [bx8] at this
  rw [(nm_2 h).2]; exact h1
theorem ck_keep {L M : List Cn} (hv : Valid L) (k : Pre L M) {c : Cn} (hc : c ∈ L) : ck M c = 0 := by
  have h := hv c hc
  obtain ⟨hk, hf⟩ := ck_parts h
  have keep : ∀ t, c.t = t → 7 ≤ t → bxE M t c.a c.b = 0 → txE M t c.a c.b = 0 → ck M c = 0 := by
    intro t ht h7 hb hx
    unfold ck
    rw [ck_ix (by omega) hk hf, ht, ix_ok hb, hx]
  rcases kn_cases hk with ht | ht | ht | ht | ht | ht | ht | ht | ht
  · unfold ck at h ⊢; rw [ht] at h hf ⊢; rw [ck1 hf] at h ⊢; exact h
  · unfold ck at h ⊢; rw [ht] at h hf ⊢; rw [ck3 hf] at h ⊢; exact h
  · unfold ck at h ⊢; rw [ht] at h hf ⊢; rw [ck5_0 hf]
  · have hi := ck_idx h (by omega)
    rw [ht, bx7, tx7] at hi
    obtain ⟨a, b⟩ := tg_pre k hi.1
    exact keep 7 ht (by decide) (by rw [bx7]; exact a) (by rw [tx7, b]; exact hi.2)
  · have hi := ck_idx h (by omega)
    rw [ht, bx8] at hi
    obtain ⟨a, b⟩ := tg_pre k hi.1
    exact keep 8 ht (by decide) (by rw [bx8]; exact a) rfl
  · have hi := ck_idx h (by omega)
    rw [ht, tx12] at hi
    obtain ⟨h1, h2⟩ := bx12 hi.1
    obtain ⟨a, b⟩ := tg_pre k h1
    obtain ⟨a', b'⟩ := tg_pre k h2
    exact keep 12 ht (by decide) (by rw [bx12_2 a]; exact a') (by rw [tx12, b, b']; exact hi.2)
  all_goals
    have hi := ck_idx h (by omega)
    rw [ht, txm (by decide)] at hi
    obtain ⟨h1, h2⟩ := bxm (by decide) hi.1
    obtain ⟨a, b⟩ := tg_pre k h1
    obtain ⟨a', b'⟩ := tg_pre k h2
    have hn := v_nt hv h2
    obtain ⟨n1, n2, n3⟩ := nt_pre k hn
    refine keep _ ht (by decide) (by rw [bxm_2 (by decide) a]; exact a') (by rw [txm (by decide), mtx_2 n1, n2, n3]; rw [mtx_2 hn] at hi; exact hi.2)
/-- a string added to a valid pool -/
theorem v_add {L : List Cn} {s : ByteArray} (hl : L.length ≤ 1000) (hv : Valid L) (he : anE L 8 s = 0) :
    (anL L 8 s).length ≤ 1000 ∧ (s.size ≤ 1024 → Valid (anL L 8 s)) ∧ (¬ s.size ≤ 1024 → ¬ Valid (anL L 8 s)) := by
  have e1 : adE L (cu s) = 0 := by
    by_cases h1 : adE L (cu s) = 0
    · exact h1
    · exact absurd ((an_1 (t := 8) h1).2.2.symm.trans he) h1
  have e2 : adE (adL L (cu s)) (ct 8 (adI L (cu s)) 0) = 0 := by
    by_cases h2 : adE (adL L (cu s)) (ct 8 (adI L (cu s)) 0) = 0
    · exact h2
    · exact absurd ((an_2 e1 h2).2.2.symm.trans he) h2
  have step : ∀ (K : List Cn) (x : Cn), K.length ≤ 1000 → adE K x = 0 → (adL K x).length ≤ 1000 ∧ ∀ c ∈ adL K x, c ∈ K ∨ c = x := by
    intro K x hK hx
    by_cases h1 : ixN K x < K.length
    · rw [(ad_1 h1).1]; exact ⟨hK, fun c hc => Or.inl hc⟩
    · by_cases h2 : 1000 ≤ K.length
      · rw [(ad_2 h1 h2).2.2] at hx; cases hx
      · rw [(ad_3 h1 h2).1]
        refine ⟨by rw [List.length_append]; simp; omega, fun c hc => ?_⟩
        rcases List.mem_append.1 hc with h | h
        · exact Or.inl h
        · exact Or.inr (by simpa using h)
  obtain ⟨l1, m1⟩ := step L (cu s) hl e1
  obtain ⟨l2, m2⟩ := step (adL L (cu s)) (ct 8 (adI L (cu s)) 0) l1 e2
  have eL := (an_3 e1 e2).1
  obtain ⟨i, h1, h2, h3⟩ := an_has he
  have hin := h1.at
  have hmem : cu s ∈ anL L 8 s := by
    rcases at_mem (anL L 8 s) i with h | h
    · rw [hin.1] at h; exact h
    · rw [hin.1] at h; exact absurd (show (1 : Int) = 0 from congrArg Cn.t h) (show ¬ (1 : Int) = 0 by decide)
  refine ⟨by rw [eL]; exact l2, fun hs c hc => ?_, fun hs hv' => ?_⟩
  · have hc' := hc
    rw [eL] at hc'
    rcases m2 c hc' with hc2 | rfl
    · rcases m1 c hc2 with hc3 | rfl
      · exact ck_keep hv h3 hc3
      · exact ck1_0 (s := s) rfl (by omega)
    · have h4 := tg_has ((has_ad e1).pre (pre_ad _ (ct 8 (adI L (cu s)) 0)))
      rw [← eL] at h4
      have hb : bxE (anL L 8 s) 8 (adI L (cu s)) 0 = 0 := by rw [bx8]; exact h4.2
      show ckE (anL L 8 s) 8 ⟨#[]⟩ 0 (adI L (cu s)) 0 = 0
      rw [ck_ix (by decide) rfl (by simp [fmB, ByteArray.toList_eq, mtB]), ix_ok hb]; rfl
  · have := hv' _ hmem
    have e : ck (anL L 8 s) (cu s) = 8 := ck1_8 (s := s) rfl (by omega)
    rw [e] at this; cases this

end Go.Proofs.YthfegbhbokhlkaaGreatDoor
