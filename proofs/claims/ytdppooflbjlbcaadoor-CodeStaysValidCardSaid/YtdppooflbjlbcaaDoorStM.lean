import Derived.Test.YtdppooflbjlbcaaDoorCr
import Derived.BigQuiet

/- Cs -/
/- Layer 9: a longer pool and a longer code keep what Check accepts. No walk. -/
namespace Go.Proofs.YtdppooflbjlbcaaDoor.I
open Go.ChangeShapes Go.WideShapes Go.ChangeAt Go.RowKit Go.PlainAid
set_option linter.unusedSimpArgs false
set_option linter.unusedVariables false

theorem pre_one (L : List Cn) (x : Cn) : Pre L (L ++ [x]) := ⟨[x], rfl⟩
theorem valid_text {L : List Cn} {s : ByteArray} (hv : Valid L) (hs : s.size ≤ 1024) : Valid (L ++ [⟨1, s, 0, 0, 0⟩]) := by
  intro c hc
  rcases List.mem_append.1 hc with h | h
  · exact ck_keep hv (pre_one _ _) h
  · obtain rfl := List.mem_singleton.1 h
    exact ck1_0 (by rfl) (by show ¬ 1024 < s.size; omega)
theorem nm_tg {L : List Cn} {i t : Int} (h : nmE L i t = 0) : tgE L i t = 0 ∧ tgE L (tgC L i t).a 1 = 0 := by
  by_cases h1 : tgE L i t = 0
  · rw [(nm_2 h1).2] at h; exact ⟨h1, h⟩
  · rw [(nm_1 h1).2] at h; exact absurd h h1
theorem nm_pre {L M : List Cn} {i t : Int} (k : Pre L M) (h : nmE L i t = 0) : nmE M i t = 0 ∧ nmS M i t = nmS L i t := by
  obtain ⟨h1, h2⟩ := nm_tg h
  obtain ⟨a1, b1⟩ := tg_pre k h1
  obtain ⟨a2, b2⟩ := tg_pre k h2
  obtain ⟨x, y⟩ := nm_2 h1
  obtain ⟨x', y'⟩ := nm_2 a1
  rw [b1] at x' y'
  exact ⟨by rw [y', a2], by rw [x', x, b2]⟩
theorem mr_all {L : List Cn} {i t : Int} (h : mrE L i t = 0) : atE L i = 0 ∧ (mtB t = true ∧ (atC L i).t = t) ∧ nmE L (atC L i).a 7 = 0 ∧ ntE L (atC L i).b = 0 := by
  by_cases h1 : atE L i = 0
  · by_cases h2 : mtB t = true ∧ (atC L i).t = t
    · by_cases h3 : nmE L (atC L i).a 7 = 0
      · by_cases h4 : ntE L (atC L i).b = 0
        · exact ⟨h1, h2, h3, h4⟩
        · rw [(mr_4 h1 h2 h3 h4).2.2.2] at h; exact absurd h h4
      · rw [(mr_3 h1 h2 h3).2.2.2] at h; exact absurd h h3
    · rw [(mr_2 h1 h2).2.2.2] at h; cases h
  · rw [(mr_1 h1).2.2.2] at h; exact absurd h h1
theorem mr_pre {L M : List Cn} {i t : Int} (k : Pre L M) (h : mrE L i t = 0) : mrE M i t = 0 ∧ mrC M i t = mrC L i t ∧ mrN M i t = mrN L i t := by
  obtain ⟨h1, h2, h3, h4⟩ := mr_all h
  obtain ⟨a1, b1⟩ := at_pre k h1
  obtain ⟨a3, b3⟩ := nm_pre k h3
  obtain ⟨a4, b4, _⟩ := nt_pre k h4
  obtain ⟨x, y, _, _⟩ := mr_5 h1 h2 h3 h4
  obtain ⟨x', y', _, z'⟩ := mr_5 (L := M) (i := i) (t := t) a1 (by rw [b1]; exact h2) (by rw [b1]; exact a3) (by rw [b1]; exact a4)
  rw [b1] at x' y'
  exact ⟨z', by rw [x', x, b3], by rw [y', y, b4]⟩
/-- in a valid pool the member that stands can be read -/
theorem v_mr {L : List Cn} (hv : Valid L) {a t : Int} (ht : t = 9 ∨ t = 10 ∨ t = 11) (ha : atE L a = 0) (hc : (atC L a).t = t) : mrE L a t = 0 := by
  have hr := at_range ha
  have hm : atC L a ∈ L := by
    rcases at_mem L a with h | h
    · exact h
    · rw [h] at hc; have : (0 : Int) = t := hc; omega
  have hx := (ck_idx (hv _ hm) (by rw [hc]; omega)).1
  rw [hc] at hx
  obtain ⟨x1, x2⟩ := bxm (by omega) hx
  exact (mr_5 ha ⟨by rcases ht with rfl | rfl | rfl <;> rfl, hc⟩ (v_nm hv (Or.inl rfl) x1) (v_nt hv x2)).2.2.2
theorem cn_pre {L M : List Cn} (hv : Valid L) (k : Pre L M) {op a : Int} (h : cnE L op a = 0) : cnE M op a = 0 := by
  by_cases h1 : atE L a = 0
  · obtain ⟨a1, b1⟩ := at_pre k h1
    cases h2 : hasI (tagsL op) (atC L a).t with
    | false => rw [cn_2 h1 h2] at h; cases h
    | true =>
      rw [cn_3 h1 h2] at h
      rw [cn_3 a1 (by rw [b1]; exact h2), b1, ← h]
      by_cases t7 : (atC L a).t = 7
      · have e := nm_pre k (v_nm hv (Or.inl rfl) (tg_3 h1 t7).2)
        unfold cnK
        rw [if_pos t7, if_pos t7, e.2]
      · by_cases t9 : (atC L a).t = 9 ∨ (atC L a).t = 10 ∨ (atC L a).t = 11
        · have e := mr_pre k (v_mr hv t9 h1 rfl)
          unfold cnK
          rw [if_neg t7, if_neg t7, e.2.1, e.2.2]
        · unfold cnK
          rw [if_neg t7, if_neg t7, if_neg t9, if_neg t9]
  · rw [cn_1 h1] at h; exact absurd h h1
theorem rf_pre {L M : List Cn} (k : Pre L M) {i : Int} {arr : Bool} (h : rfB L i arr = true) : rfB M i arr = true := by
  by_cases h1 : tgE L i 1 = 0
  · obtain ⟨a1, b1⟩ := tg_pre k h1
    unfold rfB at h ⊢
    rw [if_pos h1] at h
    rw [if_pos a1, b1]
    exact h
  · rw [rf_1 h1] at h; cases h
theorem vp_pre {L M : List Cn} (k : Pre L M) {v : VT} (h : vpB L v = true) : vpB M v = true := by
  unfold vpB at h ⊢
  split at h
  · rename_i h1; rw [if_pos h1]; exact h
  · rename_i h1
    split at h
    · rename_i h2; rw [if_neg h1, if_pos h2]; exact rf_pre k h
    · cases h
/-- c' reads as c where c reads -/
structure CdLe (c c' : Cd) : Prop where
  n : c.n ≤ c'.n
  lo : c'.lo = c.lo
  st : c'.st = c.st
  at' : ∀ k, k < c.n → c'.is[k]? = c.is[k]?
  hs : c'.hs = c.hs
  hn : c'.hn = c.hn
  mn : c'.mn = c.mn
  ln : c'.ln = c.ln
theorem CdLe.refl (c : Cd) : CdLe c c := ⟨Nat.le_refl _, rfl, rfl, fun _ _ => rfl, rfl, rfl, rfl, rfl⟩
theorem CdLe.ex {c c' : Cd} (h : CdLe c c') {x : Int} (hx : exB c.n x = true) : exB c'.n x = true := by
  have h1 := ex_iff.1 hx
  have := h.n
  exact ex_iff.2 ⟨h1.1, by omega⟩
theorem vk_le {c c' : Cd} (h : CdLe c c') {v : VT} (hv : vkB c v = true) : vkB c' v = true := by
  by_cases h5 : v.k = 5
  · cases he : exB c.n v.n with
    | false => rw [vk_5a h5 he] at hv; cases hv
    | true =>
      have h1 := ex_iff.1 he
      have hk : v.n.toNat < c.n := by omega
      cases hi : c.is[v.n.toNat]? with
      | none => unfold vkB at hv; rw [if_pos h5, hi] at hv; cases hv
      | some i =>
        rw [vk_5b h5 he hi] at hv
        rw [vk_5b h5 (h.ex he) (by rw [h.at' _ hk]; exact hi)]
        exact hv
  · rw [vk_n5 h5] at hv ⊢; exact hv
theorem vv_le {L M : List Cn} (k : Pre L M) {c c' : Cd} (h : CdLe c c') {v : VT} (hv : vvT L c v = true) : vvT M c' v = true := by
  unfold vvT at hv ⊢
  rw [Bool.and_eq_true, Bool.and_eq_true] at hv ⊢
  exact ⟨hv.1, vk_le h hv.2.1, vp_pre k hv.2.2⟩
theorem nv_le {L M : List Cn} (k : Pre L M) {c c' : Cd} (h : CdLe c c') {P : List VT} (hv : P.any (nvB L c) = false) : P.any (nvB M c') = false := by
  rw [List.any_eq_false] at hv ⊢
  intro v hm
  have h1 := hv v hm
  unfold nvB at h1 ⊢
  have h2 : vvT L c v = true := by simpa using h1
  rw [vv_le k h h2]
  decide
theorem mp_le {L M : List Cn} (k : Pre L M) {c c' : Cd} (h : CdLe c c') {x : Int} {f : FM} (hv : mpB L c x f = true) : mpB M c' x f = true := by
  by_cases h1 : exB c.n x = false ∨ c.lo < f.n1 ∨ c.st < f.n2
  · rw [mp_1 h1] at hv; cases hv
  · have hx : exB c.n x = true := okc_mp hv
    rw [mp_2 h1, Bool.and_eq_true] at hv
    have h2 : f.P.any (nvB L c) = false := by simpa using hv.1
    have h3 : f.Q.any (nvB L c) = false := by simpa using hv.2
    rw [mp_2 (by rw [h.ex hx, h.lo, h.st]; rintro (e | e); · cases e
                 · exact h1 (Or.inr e)), nv_le k h h2, nv_le k h h3]
    rfl
theorem hl_le {L M : List Cn} (k : Pre L M) {c c' : Cd} (h : CdLe c c') {y : Hd} (hv : hlB L c y = true) : hlB M c' y = true := by
  have h3 : ¬ (y.f < 0 ∨ y.t ≤ y.f ∨ (c.n : Int) < y.t ∨ exB c.n y.g = false ∨ ¬ y.s.toList = []) := by
    intro e; rw [hl_1 e] at hv; cases hv
  have hg : exB c.n y.g = true := by
    cases h5 : exB c.n y.g with
    | true => rfl
    | false => exact absurd (Or.inr (Or.inr (Or.inr (Or.inl h5)))) h3
  have hs : y.s.toList = [] := Classical.byContradiction fun e => h3 (Or.inr (Or.inr (Or.inr (Or.inr e))))
  have hn := h.n
  have h4 : ¬ (y.f < 0 ∨ y.t ≤ y.f ∨ (c'.n : Int) < y.t ∨ exB c'.n y.g = false ∨ ¬ y.s.toList = []) := by
    rw [h.ex hg]
    rintro (e | e | e | e | e)
    · exact h3 (Or.inl e)
    · exact h3 (Or.inr (Or.inl e))
    · exact h3 (Or.inr (Or.inr (Or.inl (by omega))))
    · cases e
    · exact e hs
  by_cases e1 : y.k = 0
  · exact hl_2 h4 e1
  · by_cases e2 : nmE L y.k 7 = 0
    · cases e3 : arB (nmS L y.k 7) with
      | true => rw [hl_4 h3 e1 e2 e3] at hv; cases hv
      | false =>
        obtain ⟨a, b⟩ := nm_pre k e2
        exact hl_4 (b := false) h4 e1 a (by rw [b, e3])
    · rw [hl_3 h3 e1 e2] at hv; cases hv
theorem in_le {L M : List Cn} (hv : Valid L) (k : Pre L M) {c c' : Cd} (h : CdLe c c') {i : In} (hi : inE L c i = 0) : inE M c' i = 0 := by
  obtain ⟨h1, h2⟩ := okc_in hi
  have h3 : (tgL i).any (ouB c'.n) = false := by
    rw [List.any_eq_false] at h2 ⊢
    intro t ht
    have := h2 t ht
    unfold ouB at this ⊢
    have hx : exB c.n t = true := by simpa using this
    rw [h.ex hx]; decide
  by_cases k1 : kindV i.op = 4 ∨ kindV i.op = 5
  · by_cases k2 : c.lo ≤ i.a
    · rw [in_3 h1 h2 rfl k1 k2] at hi; cases hi
    · exact in_4 h1 h3 rfl k1 (by rw [h.lo]; exact k2)
  · by_cases k2 : kindV i.op = 2
    · rw [in_5 h1 h2 rfl k2] at hi
      rw [in_5 h1 h3 rfl k2]
      exact cn_pre hv k hi
    · exact in_6 h1 h3 rfl k1 k2
theorem any_yes {α : Type} {p : α → Bool} {l : List α} (h : ∀ x ∈ l, p x = false) : l.any p = false := by
  rw [List.any_eq_false]
  intro x hx
  rw [h x hx]; decide
theorem sm_le {L M : List Cn} (k : Pre L M) {c c' : Cd} (h : CdLe c c') {ms : List SM} {j : Nat} (hs : smP L c ms j = false) : smP M c' ms j = false := by
  unfold smP at hs ⊢
  cases hm : ms[j]? with
  | none => rfl
  | some m =>
    rw [hm] at hs
    simp only [Bool.or_eq_false_iff] at hs ⊢
    refine ⟨hs.1, ?_⟩
    have h1 : mpB L c m.x m.f = true := by simpa using hs.2
    rw [mp_le k h h1]; rfl
theorem ln_le {c c' : Cd} (h : CdLe c c') {ls : List (Int × Int)} {j : Nat} (hs : lnP c ls j = false) : lnP c' ls j = false := by
  unfold lnP at hs ⊢
  cases hm : ls[j]? with
  | none => rfl
  | some m =>
    rw [hm] at hs
    simp only [Bool.or_eq_false_iff] at hs ⊢
    refine ⟨hs.1, ?_, hs.2.2⟩
    have h1 : exB c.n m.1 = true := by simpa using hs.2.1
    rw [h.ex h1]; rfl
theorem okc_le {L M : List Cn} (hv : Valid L) (k : Pre L M) {c c' : Cd} (h : CdLe c c') {ms : List SM} {ls : List (Int × Int)} (o : Okc L c ms ls) (hz : szE M c' = 0) (hi : ∀ i ∈ c'.is, i ∈ c.is ∨ inE M c' i = 0) (hl : lastT c' = true) : Okc M c' ms ls := by
  refine ⟨hz, any_yes fun i him => ?_, hl, by rw [h.hn]; exact o.h32, any_yes fun y hy => ?_, any_yes fun j hj => ?_, any_yes fun j hj => ?_⟩
  · have : inE M c' i = 0 := by
      rcases hi i him with h1 | h1
      · have h2 := any_no o.an h1
        unfold nzI at h2
        exact in_le hv k h (show inE L c i = 0 by simpa using h2)
      · exact h1
    unfold nzI
    rw [this]; rfl
  · rw [h.hs] at hy
    have h2 := any_no o.ah hy
    unfold nhB at h2 ⊢
    rw [hl_le k h (show hlB L c y = true by simpa using h2)]; rfl
  · rw [h.mn] at hj
    exact sm_le k h (any_no o.sm hj)
  · rw [h.ln] at hj
    exact ln_le h (any_no o.ln hj)
theorem okc_zero {L : List Cn} {c : Cd} {ms : List SM} {ls : List (Int × Int)} (o : Okc L c ms ls) : ckC L c ms ls = (0, 0) := cc_8 o.sz o.an o.la o.h32 o.ah o.sm o.ln
theorem sz_parts {L : List Cn} {c : Cd} (h : szE L c = 0) : chE L = 0 ∧ szB c = false ∧ ¬ (c.n = 0 ∨ 1000 < c.n) ∧ ¬ (ofE c.is = 8 ∧ alV c.is = true) := by
  cases h1 : (chE L != 0) with
  | true =>
    rw [sz_1 h1] at h
    rw [h] at h1; cases h1
  | false =>
    cases h2 : szB c with
    | true => rw [sz_2 h1 h2] at h; cases h
    | false =>
      by_cases h3 : c.n = 0 ∨ 1000 < c.n
      · rw [sz_3 h1 h2 h3] at h; cases h
      · by_cases h4 : ofE c.is = 8 ∧ alV c.is = true
        · rw [sz_4 h1 h2 h3 h4] at h; cases h
        · exact ⟨by simpa using h1, rfl, h3, h4⟩
/-- a text added to the pool -/
theorem stays_pool {L : List Cn} {s : ByteArray} {c : Cd} {ms : List SM} {ls : List (Int × Int)} (o : Okc L c ms ls) (hl : L.length < 1000) (hs : s.size ≤ 1024) : ckC (L ++ [⟨1, s, 0, 0, 0⟩]) c ms ls = (0, 0) := by
  obtain ⟨h1, h2, h3, h4⟩ := sz_parts o.sz
  have hv := (ch_zero h1).2
  have hv2 := valid_text hv hs
  have hc := (ch_valid (by rw [List.length_append]; show L.length + 1 ≤ 1000; omega) hv2).2
  refine okc_zero (okc_le hv (pre_one _ _) (CdLe.refl c) o ?_ (fun i hi => Or.inl hi) o.la)
  exact sz_5 (by rw [hc]; rfl) h2 h3 h4
/-- a return instruction appended -/
def retI : In := exJ 58 0 0
theorem ret_ok {L : List Cn} {c : Cd} : inE L c retI = 0 := in_6 (k := kindV 58) (by kernel_rfl) (by rfl) rfl (by decide +kernel) (by decide +kernel)
theorem stays_code {L : List Cn} {c c' : Cd} {ms : List SM} {ls : List (Int × Int)} (o : Okc L c ms ls) (hl : c.is.length = c.n) (hn : c'.n = c.n + 1) (hi : c'.is = c.is ++ [retI]) (hlo : c'.lo = c.lo) (hst : c'.st = c.st) (hhs : c'.hs = c.hs) (hhn : c'.hn = c.hn) (hmn : c'.mn = c.mn) (hln : c'.ln = c.ln) (h1000 : c.n < 1000) : (ckC L c' ms ls).2 = 0 ∨ (ckC L c' ms ls).2 = 8 := by
  obtain ⟨h1, h2, h3, h4⟩ := sz_parts o.sz
  have hv := (ch_zero h1).2
  have hle : CdLe c c' := ⟨by omega, hlo, hst, fun k hk => by rw [hi, List.getElem?_append_left (by omega)], hhs, hhn, hmn, hln⟩
  have hc : (chE L != 0) = false := by rw [h1]; rfl
  have hb : szB c' = false := by unfold szB at h2 ⊢; rw [hst, hlo]; exact h2
  have h5 : ¬ (c'.n = 0 ∨ 1000 < c'.n) := by omega
  by_cases h6 : ofE c'.is = 8 ∧ alV c'.is = true
  · right
    have e := sz_4 hc hb h5 h6
    rw [cc_1 (by rw [e]; decide), e]
  · left
    have e := sz_5 hc hb h5 h6
    refine congrArg Prod.snd (okc_zero (okc_le hv ⟨[], by simp⟩ hle o e (fun i him => ?_) ?_))
    · rw [hi] at him
      rcases List.mem_append.1 him with h | h
      · exact Or.inl h
      · obtain rfl := List.mem_singleton.1 h
        exact Or.inr ret_ok
    · unfold lastT
      rw [hi, show c'.n - 1 = c.is.length by omega, List.getElem?_append_right (Nat.le_refl _), Nat.sub_self]
      rfl

end Go.Proofs.YtdppooflbjlbcaaDoor.I

/- Ct -/
/- Layer 9: CodeStaysValid. (Written by gen/ct.py.) -/
namespace Go.Proofs.YtdppooflbjlbcaaDoor.I
open Go.ChangeShapes Go.WideShapes Go.ChangeAt Go.RowKit Go.PlainAid
set_option linter.unusedSimpArgs false
set_option linter.unusedVariables false

theorem own_lit0N {w : World} {B : Nat} (hB : B ≤ w.heap.size) : (w.alloc (.cells #[] 43)).ownsRow B 43 10 (.slice (some ⟨w.heap.size, 0, none⟩) 0 0) 0 (irow []) :=
  ⟨rfl, Or.inr ⟨w.heap.size, 0, #[], rfl, hB, World.alloc_heap_new _ _, Nat.zero_le _, Nat.zero_le _, rfl, rfl⟩⟩
/-- a row of instructions appended to an empty one of the call's own -/
theorem wpList_append_copyN {w : World} {ops : Array Oper} {rest : List Oper} {o : Oper} {a : Act} {Q : Exit → Act → World → Prop} (hg : o.guard = none) (s x : Operand)
    (hop : o.op = Op.call { callee := Callee.builtin Builtin.append, args := #[s, x], argTypes := #[22, 22] })
    (base m c : Nat) (L : List In) (v : Value) {gx ox : Nat} (hs : a.eval s = v) (hown : w.ownsRow base 43 10 v 0 (irow [])) (hx : a.eval x = .slice (some ⟨gx, ox, none⟩) m c)
    (hi : Ins w w.heap.size (some ⟨gx, ox, none⟩) L) (hm : L.length = m) (hb : m ≤ 100000) (hbase : base ≤ w.heap.size)
    (h : ∀ v' w', w'.ownsRow base 43 10 v' m (irow L) → w.grownBy w' v.ownBlock → wpList Tryd.prog ops Q rest (a.put o.dst v') w') : wpList Tryd.prog ops Q (o :: rest) a w := by
  obtain ⟨i0, hi0, hz0, hz1, hz2⟩ := info_parts infoN
  refine _root_.Go.wpList_append_own (w := w) hg s x 22 hop base 43 i0 _ 10 144 Tryd.underlying22 hi0 hz0 hz1 hz2 rfl (by decide) v 0 (irow []) hs hown ⟨gx, ox, none⟩ m c (irow L) hx (by rw [irow_len, hm]) (fun j u hu => ?_) (irow_cell _) (by unfold maxLen; omega) (by omega) hbase ?_
  · have hj : j < L.length * 10 := by
      rw [← irow_len]
      rcases Nat.lt_or_ge j (irow L).length with h | h
      · exact h
      · rw [List.getElem?_eq_none h] at hu; cases hu
    have hk : j / 10 < L.length := by omega
    have h1 := irow_at L (j / 10) (j % 10) _ (Nat.mod_lt _ (by decide)) (List.getElem?_eq_getElem hk)
    rw [show j / 10 * 10 + j % 10 = j by omega, hu] at h1
    rw [Addr.add_lit]
    rcases hi with h0 | ⟨g, o, hA, hg, hc⟩
    · rw [h0] at hk; exact absurd hk (Nat.not_lt_zero _)
    · obtain ⟨rfl, rfl⟩ : gx = g ∧ ox = o := by injection hA with e; injection e with e1 e2; exact ⟨e1, e2⟩
      obtain ⟨_, c0, c1, c2, c3, c4, c5, c6, c7, c8, c9⟩ := hc (j / 10) _ (List.getElem?_eq_getElem hk)
      have hr : ∀ r, j % 10 = r → ox + j = ox + j / 10 * 10 + r := by intro r hr; omega
      have hlt := Nat.mod_lt j (show 0 < 10 by decide)
      rcases (by omega : j % 10 = 0 ∨ j % 10 = 1 ∨ j % 10 = 2 ∨ j % 10 = 3 ∨ j % 10 = 4 ∨ j % 10 = 5 ∨ j % 10 = 6 ∨ j % 10 = 7 ∨ j % 10 = 8 ∨ j % 10 = 9) with e | e | e | e | e | e | e | e | e | e <;> rw [hr _ e] <;> rw [e] at h1 <;> cases h1 <;> assumption
  · intro v' w' h1 h2 _
    rw [Nat.zero_add] at h1
    exact h v' w' (by simpa [irow] using h1) h2
theorem cells_at9 {w : World} {B : Nat} {i : In} {t : TypeId} (h : w.heap[B]? = some (.cells (icells i).toArray t)) : ∀ j u, (icells i)[j]? = some u → w.cell? ⟨B, j, none⟩ = some u := by
  intro j u hu
  simp [World.cell?, h, hu]
theorem frozen9 {W : World} {B : Nat} {cs : Array Value} {t : TypeId} (h : W.heap[B]? = some (.cells cs t)) (j : Nat) : W.frozen? ⟨B, j, none⟩ = false := by simp [World.frozen?, h]
theorem retI_ok (w : World) (B : Nat) : retI.ok w B := exJ_ok _ _ _ _ _
/-- the code with a return instruction appended, in memory -/
def apC (c : Cd) (A : Option Addr) (ic : Nat) : Cd := ⟨c.st, c.lo, A, c.n + 1, ic, c.is ++ [retI], c.hA, c.hn, c.hc, c.hs, c.mA, c.mn, c.mc, c.lA, c.ln, c.lc⟩
theorem apC_m9 {c : Cd} {A : Option Addr} {ic B e : Nat} {ms : List SM} {ls : List (Int × Int)} {w : World} (h : c.m9 w ms ls) (h1 : c.n ≤ 1100) (hown : w.ownsRow B e 10 (.slice A (c.n + 1) ic) (c.n + 1) (irow (c.is ++ [retI]))) : (apC c A ic).m9 w ms ls := by
  have hok : ∀ i ∈ c.is ++ [retI], i.ok w w.heap.size := by
    intro i hi
    rcases List.mem_append.1 hi with h2 | h2
    · rcases h.c9.iw with h0 | ⟨g, o, _, _, hc⟩
      · rw [h0] at h2; cases h2
      · obtain ⟨k, hk⟩ := List.mem_iff_getElem?.1 h2
        exact (hc k i hk).1
    · obtain rfl := List.mem_singleton.1 h2
      exact retI_ok _ _
  have hins := Ins.of_own hown hok
  refine ⟨⟨by show (c.is ++ [retI]).length = c.n + 1; rw [List.length_append, h.c9.il]; rfl, hins.1, by show c.n + 1 ≤ 1101; omega, h.c9.hl, h.c9.hw, h.c9.hb, fun i hi => ?_, fun i hi => ?_⟩, h.ml, h.mw, h.mb, h.ll, h.lw, h.lb⟩
  · rcases List.mem_append.1 hi with h2 | h2
    · exact h.c9.nz i h2
    · obtain rfl := List.mem_singleton.1 h2
      exact ⟨fun _ => rfl, fun _ => rfl⟩
  · rcases List.mem_append.1 hi with h2 | h2
    · exact h.c9.tn i h2
    · obtain rfl := List.mem_singleton.1 h2
      show 0 ≤ 17592186043904; omega

set_option maxRecDepth 100000 in
set_option maxHeartbeats 16000000 in
theorem stays_law {A : Option Addr} {n cap : Nat} {L : List Cn} (c : Cd) (ms : List SM) (ls : List (Int × Int)) (s : ByteArray) (w : World) (hS : Fits L) (hn : L.length = n) (hp : Pool w w.heap.size A L) (hok : c.rawm w ms ls) (hs : s.size ≤ 140737488351232) : Calls Tryd.prog 5 #[.slice A n cap, (Value.agg #[Value.int IntKind.i64 (Cd.st c), Value.int IntKind.i64 (Cd.lo c), Value.slice (Cd.iA c) (Cd.n c) (Cd.ic c), Value.slice (Cd.hA c) (Cd.hn c) (Cd.hc c), Value.slice (Cd.mA c) (Cd.mn c) (Cd.mc c), Value.slice (Cd.lA c) (Cd.ln c) (Cd.lc c)]), .string s] w fun e w' => e = .returned (.bool true) ∧ Below w.heap.size w w' := by
  have hB : Below w.heap.size w w := Below.refl _ _
  have OK := Lib.hid hok
  have HP := Lib.hid hp
  have HN := Lib.hid hn
  have HS := Lib.hid hS
  clear hok hp hn hS
  by_cases hf : fwP n c
  · have HF := Lib.hid hf
    have OKM := Lib.hid (OK.out.m9 hf)
    have hcn : c.n ≤ 1100 := hf.2.1
    have hN : n ≤ 100000 := by have := hf.1; omega
    clear hf
    by_cases hn1 : 1000 ≤ n
    · go_enter Tryd.func5, Tryd.ntmps5
      go_upto_region 1 with fail
      have R := World.alloc_heap_new w (.cells #[.int .i64 c.st, .int .i64 c.lo, .slice c.iA c.n c.ic, .slice c.hA c.hn c.hc, .slice c.mA c.mn c.mc, .slice c.lA c.ln c.lc] 27)
      replace hB := below_al hB (.cells #[.int .i64 c.st, .int .i64 c.lo, .slice c.iA c.n c.ic, .slice c.hA c.hn c.hc, .slice c.mA c.mn c.mc, .slice c.lA c.ln c.lc] 27)
      generalize w.alloc (.cells #[.int .i64 c.st, .int .i64 c.lo, .slice c.iA c.n c.ic, .slice c.hA c.hn c.hc, .slice c.mA c.mn c.mc, .slice c.lA c.ln c.lc] 27) = W1 at R hB ⊢
      obtain ⟨r0, r1, r2, r3, r4, r5⟩ := six_cells R
      have y1 := lt_heap R
      replace R := Lib.hid R
      go_wp2_with (first | (go_at_call 11; refine (few9_yes _ HF.out).mono ?_; rintro e w1 ⟨rfl, hb1⟩) | (go_at_call 12; (with_reducible refine (awake9_any _).mono ?_); rintro e w8 ⟨rfl, hb8⟩))
      go_ret
      exact ⟨rfl, below_on (below_on hB hb1) hb8⟩
    · by_cases hs1 : 1024 < s.size
      · go_enter Tryd.func5, Tryd.ntmps5
        go_upto_region 1 with fail
        have R := World.alloc_heap_new w (.cells #[.int .i64 c.st, .int .i64 c.lo, .slice c.iA c.n c.ic, .slice c.hA c.hn c.hc, .slice c.mA c.mn c.mc, .slice c.lA c.ln c.lc] 27)
        replace hB := below_al hB (.cells #[.int .i64 c.st, .int .i64 c.lo, .slice c.iA c.n c.ic, .slice c.hA c.hn c.hc, .slice c.mA c.mn c.mc, .slice c.lA c.ln c.lc] 27)
        generalize w.alloc (.cells #[.int .i64 c.st, .int .i64 c.lo, .slice c.iA c.n c.ic, .slice c.hA c.hn c.hc, .slice c.mA c.mn c.mc, .slice c.lA c.ln c.lc] 27) = W1 at R hB ⊢
        obtain ⟨r0, r1, r2, r3, r4, r5⟩ := six_cells R
        have y1 := lt_heap R
        replace R := Lib.hid R
        go_wp2_with (first | (go_at_call 11; refine (few9_yes _ HF.out).mono ?_; rintro e w1 ⟨rfl, hb1⟩) | (go_at_call 12; (with_reducible refine (awake9_any _).mono ?_); rintro e w8 ⟨rfl, hb8⟩))
        go_ret
        exact ⟨rfl, below_on (below_on hB hb1) hb8⟩
      · go_enter Tryd.func5, Tryd.ntmps5
        go_upto_region 1 with fail
        have R := World.alloc_heap_new w (.cells #[.int .i64 c.st, .int .i64 c.lo, .slice c.iA c.n c.ic, .slice c.hA c.hn c.hc, .slice c.mA c.mn c.mc, .slice c.lA c.ln c.lc] 27)
        replace hB := below_al hB (.cells #[.int .i64 c.st, .int .i64 c.lo, .slice c.iA c.n c.ic, .slice c.hA c.hn c.hc, .slice c.mA c.mn c.mc, .slice c.lA c.ln c.lc] 27)
        generalize w.alloc (.cells #[.int .i64 c.st, .int .i64 c.lo, .slice c.iA c.n c.ic, .slice c.hA c.hn c.hc, .slice c.mA c.mn c.mc, .slice c.lA c.ln c.lc] 27) = W1 at R hB ⊢
        obtain ⟨r0, r1, r2, r3, r4, r5⟩ := six_cells R
        have y1 := lt_heap R
        replace R := Lib.hid R
        go_upto_region 3 with (go_at_call 11; refine (few9_yes _ HF.out).mono ?_; rintro e w1 ⟨rfl, hb1⟩)
        have HB := Lib.hid (below_on hB hb1)
        have OKA := Lib.hid (OKM.out.up HB.out)
        have HPA := Lib.hid (HP.out.up HB.out)
        have RB := Lib.hid ((hb1.block _ y1).trans R.out)
        clear r0 r1 r2 r3 r4 r5 y1 R hb1 hB
        clear W1
        obtain ⟨r0, r1, r2, r3, r4, r5⟩ := six_cells RB.out
        have yr := lt_heap RB.out
        generalize hw1 : w1 = wA at HB OKA HPA RB r0 r1 r2 r3 r4 r5 yr ⊢
        clear hw1 w1
        obtain ⟨E, hE⟩ : ∃ E, (ckC L c ms ls).2 = E := ⟨_, rfl⟩
        obtain ⟨K, hK⟩ : ∃ K, (ckC L c ms ls).1 = K := ⟨_, rfl⟩
        have HC0 := chk9_any (cap := cap) c ms ls wA HS.out HN.out hN HPA.out OKA.out
        rw [hE, hK] at HC0
        have HC := Lib.hid HC0
        clear HC0
        by_cases h0 : E = 0
        · subst h0
          have oc := okc_of hE
          have OC := Lib.hid oc
          have hK0 : K = 0 := by rw [← hK, okc_zero oc]
          subst hK0
          clear hE hK oc
          go_upto_region 6 with (go_at_call 17; (with_reducible refine HC.out.mono ?_); rintro e w2 ⟨rfl, hb2⟩)
          have HB2 := Lib.hid (below_on HB.out hb2)
          have OKB := Lib.hid (OKA.out.up hb2)
          have HPB := Lib.hid (HPA.out.up hb2)
          have RB2 := Lib.hid ((hb2.block _ yr).trans RB.out)
          clear r0 r1 r2 r3 r4 r5 yr RB OKA HPA HB HC hb2
          generalize hw2 : w2 = wB at RB2 HB2 OKB HPB ⊢
          clear hw2
          obtain ⟨r0, r1, r2, r3, r4, r5⟩ := six_cells RB2.out
          have yr := lt_heap RB2.out
          have HSP := Lib.hid (stays_pool (s := s) OC.out (by rw [HN.out]; omega) (by omega))
          have HS2 := Lib.hid (show Fits (L ++ [⟨1, s, 0, 0, 0⟩]) from by
            intro x hx
            rcases List.mem_append.1 hx with h | h
            · exact HS.out x h
            · obtain rfl := List.mem_singleton.1 h
              exact hs)
          have hN2 : n + 1 ≤ 100000 := by omega
          have KC := Lib.hid (fun (W : World) (A2 : Option Addr) (c2 : Nat) (hO : Pool W W.heap.size A2 (L ++ [⟨1, s, 0, 0, 0⟩])) (hb : Below wB.heap.size wB W) => show Calls Tryd.prog 17 #[.slice A2 (n + 1) c2, (Value.agg #[Value.int IntKind.i64 (Cd.st c), Value.int IntKind.i64 (Cd.lo c), Value.slice (Cd.iA c) (Cd.n c) (Cd.ic c), Value.slice (Cd.hA c) (Cd.hn c) (Cd.hc c), Value.slice (Cd.mA c) (Cd.mn c) (Cd.mc c), Value.slice (Cd.lA c) (Cd.ln c) (Cd.lc c)])] W fun e w' => e = .returned (.tuple #[.int .i64 0, .int .i64 0]) ∧ Below W.heap.size W w' by
            have := chk9_any (cap := c2) c ms ls W HS2.out (show (L ++ [(⟨1, s, 0, 0, 0⟩ : Cn)]).length = n + 1 by rw [List.length_append, HN.out]; rfl) hN2 hO (OKB.out.up hb)
            rw [HSP.out] at this
            exact this)
          go_region_held3 (fun w' => w'.cell? ⟨w.heap.size, 0, none⟩ = some (.int .i64 c.st) ∧ w'.cell? ⟨w.heap.size, 1, none⟩ = some (.int .i64 c.lo) ∧ w'.cell? ⟨w.heap.size, 2, none⟩ = some (.slice c.iA c.n c.ic) ∧ w'.cell? ⟨w.heap.size, 3, none⟩ = some (.slice c.hA c.hn c.hc) ∧ w'.cell? ⟨w.heap.size, 4, none⟩ = some (.slice c.mA c.mn c.mc) ∧ w'.cell? ⟨w.heap.size, 5, none⟩ = some (.slice c.lA c.ln c.lc) ∧ w.heap.size < w'.heap.size ∧ Below wB.heap.size wB w') (((try go_split_ands); (repeat' apply And.intro) <;> (first | assumption | exact (Below.refl _ _).drew | exact (Below.cell hq (by first | (dsimp only; omega) | (simp; omega))).trans (by assumption) | (have := hq.size; omega) | (simp; omega) | exact below_on (w := wB) (by assumption) hq | exact Below.trans (by assumption) (hq.mono (by first | omega | (simp; done) | (simp; omega))) | exact Below.drew (by assumption) | exact below_al (by assumption) _ | exact below_al (Below.drew (by assumption)) _ | go_keep)))
            (first | (refine step_append_copy (by rfl) _ _ (by rfl) (by rfl) (by rfl) (HPB.out.up (by first | assumption | (go_split_ands; assumption))) HN.out hN ?_; intro A1 c1 w2 hO hq) | (refine step_append_own (M := [⟨1, s, 0, 0, 0⟩]) (by rfl) _ _ (by rfl) (by rfl) (by first | exact hO | exact hO.alloc _ | exact hO.drew.alloc _) hN (by have := hq.size; first | (simp at this ⊢; omega) | (simp; omega) | omega) (by rfl) (one_cells (by first | exact new_at (by simp; done) | exact (Below.block hq _ (by first | (simp; done) | (simp; omega))).trans (new_at (by simp; done)) | exact (Below.block hq _ (by first | (simp; done) | (simp; omega))).trans (laid_old (new_at (by simp; done))))) rfl Nat.zero_lt_one (by show 1 ≤ 100000; omega) ?_; intro A2 c2 w3 hO2 hq) | (go_at_call 17; (with_reducible refine (KC.out _ _ _ (by first | exact hO2.pool | exact hO2.drew.pool) (by first | assumption | (go_split_ands; assumption))).mono ?_); rintro e w4 ⟨rfl, hq⟩))
          all_goals
            go_split_ands
            have hend : Below wB.heap.size wB w4 := by assumption
            have HB4 := Lib.hid (below_on HB2.out hend)
            have OK4 := Lib.hid (OKB.out.up hend)
            have HP4 := Lib.hid (HPB.out.up hend)
            have RB4 := Lib.hid ((hend.block _ (lt_heap RB2.out)).trans RB2.out)
            go_upto_region 10 with fail
            have RD := World.alloc_heap_new w4 (.cells #[.int .i64 c.st, .int .i64 c.lo, .slice c.iA c.n c.ic, .slice c.hA c.hn c.hc, .slice c.mA c.mn c.mc, .slice c.lA c.ln c.lc] 27)
            have RB5 := Lib.hid (laid_old (o' := (.cells #[.int .i64 c.st, .int .i64 c.lo, .slice c.iA c.n c.ic, .slice c.hA c.hn c.hc, .slice c.mA c.mn c.mc, .slice c.lA c.ln c.lc] 27)) RB4.out)
            have hb5 := below_al (Below.refl _ w4) (.cells #[.int .i64 c.st, .int .i64 c.lo, .slice c.iA c.n c.ic, .slice c.hA c.hn c.hc, .slice c.mA c.mn c.mc, .slice c.lA c.ln c.lc] 27)
            have HB5 := Lib.hid (below_on HB4.out hb5)
            have OK5 := Lib.hid (OK4.out.up hb5)
            have HP5 := Lib.hid (HP4.out.up hb5)
            have ywd := lt_heap RB4.out
            generalize hbd : w4.heap.size = d at RD ywd ⊢
            generalize w4.alloc (.cells #[.int .i64 c.st, .int .i64 c.lo, .slice c.iA c.n c.ic, .slice c.hA c.hn c.hc, .slice c.mA c.mn c.mc, .slice c.lA c.ln c.lc] 27) = wD at RD RB5 HB5 OK5 HP5 hb5 ⊢
            have HBD := Lib.hid hbd
            have HB54 := Lib.hid hb5
            clear hbd hend RB4 HB4 hb5
            have HRD := Lib.hid RD
            obtain ⟨x0, x1, x2, x3, x4, x5⟩ := six_cells RD
            have yd := lt_heap RD
            clear RD
            obtain ⟨r0, r1, r2, r3, r4, r5⟩ := six_cells RB5.out
            have yr := lt_heap RB5.out
            have hiw := OK5.out.c9.iw
            have hil := OK5.out.c9.il
            have hsn := szn OC.out.sz
            rcases hiw with h0 | hiw
            · rw [h0] at hil; simp at hil; omega
            obtain ⟨g, o, hgo, hiw2⟩ := hiw
            have HIW := Lib.hid (show Ins wD wD.heap.size (some ⟨g, o, none⟩) c.is from Or.inr ⟨g, o, rfl, hiw2⟩)
            clear hiw2
            rw [hgo] at r2 x2
            have hown0 := own_lit0N (w := wD) (B := wD.heap.size) (Nat.le_refl _)
            have hbz := below_al (Below.refl _ wD) (.cells #[] 43)
            go_upto_region 11 with (first | (at_builtin; refine wpList_append_copyN (by rfl) _ _ (by rfl) wD.heap.size c.n c.ic c.is _ (by rfl) hown0 (by rfl) (HIW.out.up hbz) hil (by omega) (by simp) ?_; intro v1 wE ho1 hg1; have hbE := grown_own hbz hown0 hg1) | (at_builtin; refine wpList_append_inst (by rfl) _ _ (by rfl) wD.heap.size c.n wE.heap.size c.is retI _ (by rfl) (ho1.alloc _) (by rfl) (cells_at9 (World.alloc_heap_new _ _)) (by omega) (by have := hbE.size; simp; omega) ?_; intro v2 wF ho2 hg2; have hbF := grown_own (below_al hbE _) (ho1.alloc _) hg2; have HRF := Lib.hid ((hbF.block _ yd).trans HRD.out); obtain ⟨z0, z1, z2, z3, z4, z5⟩ := six_cells HRF.out; have yf := lt_heap HRF.out; have zf := frozen9 HRF.out 2; obtain ⟨A5, c5, rfl, _, _, _⟩ := own_form ho2))
            have HG := heap_setCell_same wF d 2 _ _ (.slice A5 (c.n + 1) c5) HRF.out
            have HG2 := Lib.hid (show (wF.setCell ⟨d, 2, none⟩ (.slice A5 (c.n + 1) c5)).heap[d]? = some (.cells #[.int .i64 c.st, .int .i64 c.lo, .slice A5 (c.n + 1) c5, .slice c.hA c.hn c.hc, .slice c.mA c.mn c.mc, .slice c.lA c.ln c.lc] 27) by simpa using HG)
            have RB6 := Lib.hid (show (wF.setCell ⟨d, 2, none⟩ (.slice A5 (c.n + 1) c5)).heap[w.heap.size]? = some (.cells #[.int .i64 c.st, .int .i64 c.lo, .slice c.iA c.n c.ic, .slice c.hA c.hn c.hc, .slice c.mA c.mn c.mc, .slice c.lA c.ln c.lc] 27) from (heap_setCell_other wF ⟨d, 2, none⟩ w.heap.size _ (by show w.heap.size ≠ d; omega)).trans ((hbF.block _ yr).trans RB5.out))
            have hown2 := ownsRow_setCell_below ho2 (a := ⟨d, 2, none⟩) yd (.slice A5 (c.n + 1) c5)
            have HBG := Lib.hid (show Below w.heap.size w (wF.setCell ⟨d, 2, none⟩ (.slice A5 (c.n + 1) c5)) from below_st (below_on HB5.out hbF) (by show w.heap.size ≤ d; omega) _)
            have OKF := OK5.out.up hbF
            have hbG : Below w4.heap.size w4 (wF.setCell ⟨d, 2, none⟩ (.slice A5 (c.n + 1) c5)) := below_st (below_on HB54.out hbF) (by show w4.heap.size ≤ d; rw [HBD.out]; exact Nat.le_refl _) _
            have OKG := Lib.hid (OK4.out.up hbG)
            have HC2 : Calls Tryd.prog 17 #[.slice A n cap, .agg #[.int .i64 c.st, .int .i64 c.lo, .slice A5 (c.n + 1) c5, .slice c.hA c.hn c.hc, .slice c.mA c.mn c.mc, .slice c.lA c.ln c.lc]] (wF.setCell ⟨d, 2, none⟩ (.slice A5 (c.n + 1) c5)) (fun e w' => e = .returned (.tuple #[.int .i64 (ckC L (apC c A5 c5) ms ls).1, .int .i64 (ckC L (apC c A5 c5) ms ls).2]) ∧ Below (wF.setCell ⟨d, 2, none⟩ (.slice A5 (c.n + 1) c5)).heap.size (wF.setCell ⟨d, 2, none⟩ (.slice A5 (c.n + 1) c5)) w') := chk9_any (cap := cap) (apC c A5 c5) ms ls _ HS.out HN.out hN (HP4.out.up hbG) (apC_m9 OKG.out hcn hown2)
            have HST := Lib.hid (fun h => stays_code (L := L) (ms := ms) (ls := ls) (c' := apC c A5 c5) OC.out OKG.out.c9.il rfl rfl rfl rfl rfl rfl rfl rfl h)
            obtain ⟨G2, hG2⟩ : ∃ G, (ckC L (apC c A5 c5) ms ls).2 = G := ⟨_, rfl⟩
            obtain ⟨K2, hK2⟩ : ∃ G, (ckC L (apC c A5 c5) ms ls).1 = G := ⟨_, rfl⟩
            rw [hG2] at HST
            rw [hG2, hK2] at HC2
            have HCC := Lib.hid HC2
            clear hG2 hK2 HC2 hown2 hbG OKF HG ho1 ho2 hg1 hg2 hbE hbF x0 x1 x2 x3 x4 x5 r0 r1 r2 r3 r4 r5 z0 z1 z2 z3 z4 z5 yf zf hown0 hbz
            generalize wF.setCell ⟨d, 2, none⟩ (.slice A5 (c.n + 1) c5) = wG at HG2 RB6 HBG OKG HCC ⊢
            obtain ⟨x0, x1, x2, x3, x4, x5⟩ := six_cells HG2.out
            have yx := lt_heap HG2.out
            have yr6 := lt_heap RB6.out
            go_upto_region 12 with (go_at_call 17; (with_reducible refine HCC.out.mono ?_); rintro e w7 ⟨rfl, hb7⟩)
            have HB7 := Lib.hid (below_on HBG.out hb7)
            have RB7 := Lib.hid ((hb7.block _ yr6).trans RB6.out)
            clear x0 x1 x2 x3 x4 x5 yx yr6 hb7
            have AW := Lib.hid (fun (W : World) => awake9_any W)
            by_cases hg0 : G2 = 0
            · subst hg0
              go_wp2_with (go_at_call 12; (with_reducible refine (AW.out _).mono ?_); rintro e w8 ⟨rfl, hb8⟩)
              go_ret
              exact ⟨rfl, below_on HB7.out hb8⟩
            · have e0 : (G2 == 0) = false := by simpa using hg0
              by_cases h1000 : c.n < 1000
              · have hg8 : G2 = 8 := (HST.out h1000).resolve_left hg0
                subst hg8
                have e1 : ¬ (1000 : Int) ≤ (c.n : Int) := by omega
                clear e0 hg0
                go_wp2_with (go_at_call 12; (with_reducible refine (AW.out _).mono ?_); rintro e w8 ⟨rfl, hb8⟩; have HB8 := Lib.hid hb8; have R8 := (hb8.block _ (lt_heap RB7.out)).trans RB7.out; clear hb8; obtain ⟨r0, r1, r2, r3, r4, r5⟩ := six_cells R8; have y8 := lt_heap R8; clear R8)
                go_ret
                exact ⟨rfl, below_on HB7.out HB8.out⟩
              · have e1 : (1000 : Int) ≤ (c.n : Int) := by omega
                go_wp2_with (go_at_call 12; (with_reducible refine (AW.out _).mono ?_); rintro e w8 ⟨rfl, hb8⟩; have HB8 := Lib.hid hb8; have R8 := (hb8.block _ (lt_heap RB7.out)).trans RB7.out; clear hb8; obtain ⟨r0, r1, r2, r3, r4, r5⟩ := six_cells R8; have y8 := lt_heap R8; clear R8)
                go_ret
                exact ⟨rfl, below_on HB7.out HB8.out⟩
        · have hx : (E != 0) = true := by simpa using h0
          clear h0 hE hK
          go_wp2_with (first | (go_at_call 17; (with_reducible refine HC.out.mono ?_); rintro e w2 ⟨rfl, hb2⟩) | (go_at_call 12; (with_reducible refine (awake9_any _).mono ?_); rintro e w8 ⟨rfl, hb8⟩))
          go_ret
          exact ⟨rfl, below_on HB.out (below_on hb2 hb8)⟩
  · have HF := Lib.hid hf
    clear hf
    go_enter Tryd.func5, Tryd.ntmps5
    go_upto_region 1 with fail
    have R := World.alloc_heap_new w (.cells #[.int .i64 c.st, .int .i64 c.lo, .slice c.iA c.n c.ic, .slice c.hA c.hn c.hc, .slice c.mA c.mn c.mc, .slice c.lA c.ln c.lc] 27)
    replace hB := below_al hB (.cells #[.int .i64 c.st, .int .i64 c.lo, .slice c.iA c.n c.ic, .slice c.hA c.hn c.hc, .slice c.mA c.mn c.mc, .slice c.lA c.ln c.lc] 27)
    generalize w.alloc (.cells #[.int .i64 c.st, .int .i64 c.lo, .slice c.iA c.n c.ic, .slice c.hA c.hn c.hc, .slice c.mA c.mn c.mc, .slice c.lA c.ln c.lc] 27) = W1 at R hB ⊢
    obtain ⟨r0, r1, r2, r3, r4, r5⟩ := six_cells R
    have y1 := lt_heap R
    replace R := Lib.hid R
    go_wp2_with (first | (go_at_call 11; refine (few9_no _ HF.out).mono ?_; rintro e w1 ⟨rfl, hb1⟩) | (go_at_call 12; refine (awake9_any _).mono ?_; rintro e w2 ⟨rfl, hb2⟩))
    go_ret
    exact ⟨rfl, below_on (below_on hB hb1) hb2⟩

end Go.Proofs.YtdppooflbjlbcaaDoor.I
