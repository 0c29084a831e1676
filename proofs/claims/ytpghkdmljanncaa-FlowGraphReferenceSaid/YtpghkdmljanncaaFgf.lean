/- Layer 19: Reachable. -/
import Derived.Test.YtpghkdmljanncaaFge
namespace Go.Proofs.Ytpghkdmljanncaa
open Go.ChangeShapes Go.WideShapes Go.ChangeAt Go.RowKit Go.PlainAid
set_option linter.unusedSimpArgs false
set_option linter.unusedVariables false

/-- x has a distance -/
def Has (f : List Int) (x : Nat) : Prop := ∃ y, f[x]? = some y ∧ 0 ≤ y
theorem has_dec {f : List Int} {x : Nat} (h : x < f.length) : Has f x ∨ f.getD x 0 < 0 := by
  rw [List.getD_eq_getElem?_getD, List.getElem?_eq_getElem h]
  rcases Int.lt_or_le f[x] 0 with h1 | h1
  · exact Or.inr h1
  · exact Or.inl ⟨f[x], List.getElem?_eq_getElem h, h1⟩
theorem Has.get {f : List Int} {x : Nat} (h : Has f x) : 0 ≤ f.getD x 0 := by
  obtain ⟨y, hy, h0⟩ := h
  rw [List.getD_eq_getElem?_getD, hy]; exact h0
theorem Has.set {f : List Int} {x t : Nat} {v : Int} (h : Has f x) (hv : 0 ≤ v) : Has (f.set t v) x := by
  obtain ⟨y, hy, h0⟩ := h
  have hl := get_ltF hy
  unfold Has
  rw [List.getElem?_set]
  by_cases e : t = x
  · rw [if_pos e, if_pos (by omega)]; exact ⟨v, rfl, hv⟩
  · rw [if_neg e]; exact ⟨y, hy, h0⟩
theorem has_set {f : List Int} {t : Nat} {v : Int} (ht : t < f.length) (hv : 0 ≤ v) : Has (f.set t v) t := ⟨v, by rw [List.getElem?_set, if_pos rfl, if_pos ht], hv⟩
theorem has_of_set {f : List Int} {x t : Nat} {v : Int} (h : Has (f.set t v) x) : Has f x ∨ x = t := by
  obtain ⟨y, hy, h0⟩ := h
  rw [List.getElem?_set] at hy
  by_cases e : t = x
  · exact Or.inr e.symm
  · rw [if_neg e] at hy; exact Or.inl ⟨y, hy, h0⟩
theorem dsIn_has (a : Int) : ∀ (S f q : List Int), Has f a.toNat → (∀ t ∈ S, 0 ≤ t ∧ t.toNat < f.length) →
    (∀ x, Has f x → Has (dsIn a f q S).1 x) ∧ (∀ t ∈ S, Has (dsIn a f q S).1 t.toNat) ∧ (∀ x, Has (dsIn a f q S).1 x → Has f x ∨ ((x : Int) ∈ (dsIn a f q S).2 ∧ (x : Int) ∈ S)) ∧ (∀ x ∈ q, x ∈ (dsIn a f q S).2) ∧ (∀ x ∈ (dsIn a f q S).2, x ∈ q ∨ x ∈ S)
  | [], f, q, _, _ => ⟨fun _ h => h, fun t h => absurd h List.not_mem_nil, fun _ h => Or.inl h, fun _ h => h, fun _ h => Or.inl h⟩
  | t :: r, f, q, ha, hS => by
    have ht := hS t List.mem_cons_self
    have hr := fun s hs => hS s (List.mem_cons_of_mem t hs)
    have hn := ha.get
    unfold dsIn
    by_cases hlt : f.getD t.toNat 0 < 0
    · rw [if_pos hlt]
      obtain ⟨i1, i2, i3, i4, i5⟩ := dsIn_has a r (f.set t.toNat (f.getD a.toNat 0 + 1)) (q ++ [t]) (ha.set (by omega)) (fun s hs => by rw [List.length_set]; exact hr s hs)
      have ht1 : Has (f.set t.toNat (f.getD a.toNat 0 + 1)) t.toNat := has_set ht.2 (by omega)
      refine ⟨fun x hx => i1 x (hx.set (by omega)), fun s hs => ?_, fun x hx => ?_, fun x hx => i4 x (List.mem_append_left _ hx), fun x hx => ?_⟩
      · rcases List.mem_cons.1 hs with rfl | hs
        · exact i1 _ ht1
        · exact i2 s hs
      · rcases i3 x hx with h | ⟨h1, h2⟩
        · rcases has_of_set h with h | h
          · exact Or.inl h
          · have hxt : (x : Int) = t := by omega
            exact Or.inr ⟨i4 _ (List.mem_append_right _ (by rw [hxt]; exact List.mem_cons_self)), by rw [hxt]; exact List.mem_cons_self⟩
        · exact Or.inr ⟨h1, List.mem_cons_of_mem _ h2⟩
      · rcases i5 x hx with h | h
        · rcases List.mem_append.1 h with h | h
          · exact Or.inl h
          · rw [List.mem_singleton.1 h]; exact Or.inr List.mem_cons_self
        · exact Or.inr (List.mem_cons_of_mem _ h)
    · rw [if_neg hlt]
      obtain ⟨i1, i2, i3, i4, i5⟩ := dsIn_has a r f q ha hr
      have ht1 : Has f t.toNat := (has_dec ht.2).resolve_right hlt
      refine ⟨i1, fun s hs => ?_, fun x hx => ?_, i4, fun x hx => ?_⟩
      · rcases List.mem_cons.1 hs with rfl | hs
        · exact i1 _ ht1
        · exact i2 s hs
      · rcases i3 x hx with h | ⟨h1, h2⟩
        · exact Or.inl h
        · exact Or.inr ⟨h1, List.mem_cons_of_mem _ h2⟩
      · rcases i5 x hx with h | h
        · exact Or.inl h
        · exact Or.inr (List.mem_cons_of_mem _ h)
theorem dsOut_has (c : Cd) (m : Nat) (hed : ∀ x : Int, ∀ t ∈ edL c x, 0 ≤ t ∧ t.toNat < m) : ∀ (k : Nat) (f q : List Int), mu f q < k → f.length = m → (∀ x ∈ q, 0 ≤ x ∧ Has f x.toNat) → (∀ x : Nat, Has f x → (x : Int) ∈ q ∨ ∀ t ∈ edL c x, Has f t.toNat) →
    (∀ x, Has f x → Has (dsOut c k f q) x) ∧ (∀ x : Nat, Has (dsOut c k f q) x → ∀ t ∈ edL c x, Has (dsOut c k f q) t.toNat) ∧ (∀ S : Nat → Prop, (∀ x t : Nat, S x → (t : Int) ∈ edL c x → S t) → (∀ x, Has f x → S x) → ∀ x, Has (dsOut c k f q) x → S x)
  | 0, f, q, hm, _, _, _ => absurd hm (Nat.not_lt_zero _)
  | k + 1, f, [], hm, hl, hq, hc => ⟨fun _ h => h, fun x hx => (hc x hx).resolve_left List.not_mem_nil, fun _ _ hS x hx => hS x hx⟩
  | k + 1, f, a :: q, hm, hl, hq, hc => by
    obtain ⟨ha0, ha⟩ := hq a List.mem_cons_self
    have haa : ((a.toNat : Nat) : Int) = a := Int.toNat_of_nonneg ha0
    obtain ⟨i1, i2, i3, i4, i5⟩ := dsIn_has a (edL c a) f q ha (fun t ht => by rw [hl]; exact hed a t ht)
    obtain ⟨m1, m2⟩ := dsIn_mu a (edL c a) f q ha.get
    have hmu : mu (dsIn a f q (edL c a)).1 (dsIn a f q (edL c a)).2 < k := by
      rw [m1]
      unfold mu at hm ⊢
      rw [List.length_cons] at hm
      omega
    obtain ⟨j1, j2, j3⟩ := dsOut_has c m hed k _ _ hmu (by rw [m2, hl]) (fun x hx => by
      rcases i5 x hx with h | h
      · have := hq x (List.mem_cons_of_mem _ h)
        exact ⟨this.1, i1 _ this.2⟩
      · exact ⟨(hed a x h).1, i2 x h⟩) (fun x hx => by
      rcases i3 x hx with h | h
      · rcases hc x h with h | h
        · rcases List.mem_cons.1 h with h | h
          · exact Or.inr fun t ht => i2 t (by rw [← h]; exact ht)
          · exact Or.inl (i4 _ h)
        · exact Or.inr fun t ht => i1 _ (h t ht)
      · exact Or.inl h.1)
    refine ⟨fun x hx => j1 x (i1 x hx), j2, fun S hS h0 x hx => j3 S hS (fun y hy => ?_) x hx⟩
    rcases i3 y hy with h | h
    · exact h0 y h
    · exact hS a.toNat y (h0 _ ha) (by rw [haa]; exact h.2)
theorem reL_get {c : Cd} {i : Nat} : (reL c)[i]? = some true ↔ Has (distL c) i := by
  unfold reL Has
  rw [List.getElem?_map]
  cases h : (distL c)[i]? with
  | none => simp
  | some y => simp
theorem bool_iff {b b' : Bool} (h : some b = some true ↔ some b' = some true) : some b = some b' := by
  cases b with
  | true => exact (h.1 rfl).symm
  | false => cases b' with
    | true => exact h.2 rfl
    | false => rfl
/-- a visit of the first instruction marks what has a distance -/
theorem vis_re {c : Cd} {w : World} (h : c.ok w) (hn : 0 < c.n) {M' : List Bool} (hl : M'.length = c.n) (hv : Vis c (List.replicate c.n false) 0 M') : M' = reL c := by
  have hno : ∀ x : Nat, ¬ (List.replicate c.n false)[x]? = some true := fun x hx => by
    rw [List.getElem?_replicate] at hx
    split at hx <;> cases hx
  have hD : distL c = dsOut c (c.n + 1) ((List.replicate c.n (-1)).set 0 0) [0] := if_neg (by omega)
  have hst : ∀ x : Nat, Has ((List.replicate c.n (-1)).set 0 0) x → x = 0 := fun x hx => by
    rcases has_of_set hx with ⟨y, hy, h0⟩ | h
    · rw [List.getElem?_replicate] at hy
      split at hy
      · obtain rfl := Option.some.inj hy; omega
      · cases hy
    · exact h
  have h00 : Has ((List.replicate c.n (-1)).set 0 0) 0 := has_set (by simpa using hn) (Int.le_refl _)
  obtain ⟨d1, d2, d3⟩ := dsOut_has c c.n (fun x t ht => by have := edL_bd h x t ht; omega) (c.n + 1) ((List.replicate c.n (-1)).set 0 0) [0] (by rw [mu_start hn]; omega) (by simp) (fun x hx => by rw [List.mem_singleton.1 hx]; exact ⟨Int.le_refl _, h00⟩) (fun x hx => Or.inl (by rw [hst x hx]; exact List.mem_cons_self))
  rw [← hD] at d1 d2 d3
  have key : ∀ i : Nat, M'[i]? = some true ↔ (reL c)[i]? = some true := fun i => by
    rw [reL_get]
    constructor
    · intro hi
      rcases hv.least (fun x => Has (distL c) x) (d1 0 h00) (fun x t hx ht => by have := d2 x hx t ht; rwa [Int.toNat_natCast] at this) i hi with h1 | h1
      · exact absurd h1 (hno i)
      · exact h1
    · intro hi
      exact d3 (fun x => M'[x]? = some true) (fun x t hx ht => by
        rcases hv.clos x hx with h1 | h1
        · exact absurd h1 (hno x)
        · exact h1 t ht) (fun x hx => by rw [hst x hx]; exact hv.hit) i hi
  apply List.ext_getElem?
  intro i
  have hrl : (reL c).length = c.n := by unfold reL; rw [List.length_map, distL_len]
  rcases Nat.lt_or_ge i c.n with hi | hi
  · obtain ⟨b, hb⟩ := get_someF (l := M') (k := i) (by omega)
    obtain ⟨b', hb'⟩ := get_someF (l := reL c) (k := i) (by omega)
    have := key i
    rw [hb, hb'] at this ⊢
    exact bool_iff this
  · rw [List.getElem?_eq_none (by omega), List.getElem?_eq_none (by omega)]
set_option maxRecDepth 100000 in
set_option maxHeartbeats 4000000 in
theorem re_any (c : Cd) (w : World) (hok : c.ok w) (hf : c.few) : Calls Try.prog 37 #[(Value.agg #[Value.int IntKind.i64 (Cd.st c), Value.int IntKind.i64 (Cd.lo c), Value.slice (Cd.iA c) (Cd.n c) (Cd.ic c), Value.slice (Cd.hA c) (Cd.hn c) (Cd.hc c), Value.slice (Cd.mA c) (Cd.mn c) (Cd.mc c), Value.slice (Cd.lA c) (Cd.ln c) (Cd.lc c)])] w (MarksRet w c.n (reL c)) := by
  have hB : Below w.heap.size w w := Below.refl _ _
  have OK := Lib.hid hok
  have hcn := hf.n
  clear hok
  go_enter Try.func37, Try.ntmps37
  go_upto_region 1 with fail
  have R := World.alloc_heap_new w (.cells #[.int .i64 c.st, .int .i64 c.lo, .slice c.iA c.n c.ic, .slice c.hA c.hn c.hc, .slice c.mA c.mn c.mc, .slice c.lA c.ln c.lc] 50)
  replace hB := below_al hB (.cells #[.int .i64 c.st, .int .i64 c.lo, .slice c.iA c.n c.ic, .slice c.hA c.hn c.hc, .slice c.mA c.mn c.mc, .slice c.lA c.ln c.lc] 50)
  generalize w.alloc (.cells #[.int .i64 c.st, .int .i64 c.lo, .slice c.iA c.n c.ic, .slice c.hA c.hn c.hc, .slice c.mA c.mn c.mc, .slice c.lA c.ln c.lc] 50) = W1 at R hB ⊢
  obtain ⟨r0, r1, r2, r3, r4, r5⟩ := six_cells R
  have y1 := lt_heap R
  replace R := Lib.hid R
  have OK1 := Lib.hid (OK.out.up hB)
  have HB := Lib.hid hB
  obtain ⟨i0, hi, hz0, hz1, hz2⟩ := info_parts infoB
  obtain ⟨Wm, hmk, hown, hgr⟩ := run_makeSlice_full (P := Try.prog) W1 W1.heap.size 54 4 i0 (.bool false) 1 Try.underlying54 hi hz0 hz1 .i64 .i64 c.n (by omega) (by rw [hz2]; omega) (by unfold maxLen; omega) (Nat.le_refl _)
  rw [made_rb] at hown
  have hbm := grown_below hgr (fun k hk => by cases hk) (Nat.le_refl W1.heap.size)
  have HM0 := Lib.hid (show Mk W1 Wm c.n (List.replicate c.n false) from ⟨hown, hbm⟩)
  have RBm := Lib.hid ((hbm.block _ y1).trans R.out)
  clear hown hgr hi hz0 hz1 hz2 hB hbm
  go_upto_region 2 with fail
  clear hmk
  clear r0 r1 r2 r3 r4 r5
  have yrm := lt_heap RBm.out
  have hsm := HM0.out.sz
  go_upto_region 3 with fail
  have hb4 : Below Wm.heap.size Wm ((Wm.alloc (.cells #[.slice (some ⟨W1.heap.size, 0, none⟩) c.n c.n] 54)).alloc (.cells #[.nilFunc] 89)) := below_al (below_al (Below.refl _ _) _) _
  have hx0 : ((Wm.alloc (.cells #[.slice (some ⟨W1.heap.size, 0, none⟩) c.n c.n] 54)).alloc (.cells #[.nilFunc] 89)).heap[Wm.heap.size + 1]? = some (.cells #[.nilFunc] 89) := new_at (by simp)
  have hk0 : ((Wm.alloc (.cells #[.slice (some ⟨W1.heap.size, 0, none⟩) c.n c.n] 54)).alloc (.cells #[.nilFunc] 89)).heap[Wm.heap.size]? = some (.cells #[.slice (some ⟨W1.heap.size, 0, none⟩) c.n c.n] 54) := laid_old (World.alloc_heap_new Wm _)
  generalize (Wm.alloc (.cells #[.slice (some ⟨W1.heap.size, 0, none⟩) c.n c.n] 54)).alloc (.cells #[.nilFunc] 89) = W4 at hx0 hb4 hk0 ⊢
  have hc0 := ten_cell0 hx0
  have hf0 := frozF hx0 0
  have hl0 := lt_heap hx0
  go_upto_region 4 with fail
  have hR5 := heap_setCell_other W4 ⟨Wm.heap.size + 1, 0, none⟩ w.heap.size (.func (Fn.func 75) #[] #[.pointer (some ⟨Wm.heap.size, 0, none⟩), .pointer (some ⟨w.heap.size, 0, none⟩), .pointer (some ⟨Wm.heap.size + 1, 0, none⟩)]) (by show w.heap.size ≠ Wm.heap.size + 1; omega)
  rw [(hb4.block _ yrm).trans RBm.out] at hR5
  have hk5 := heap_setCell_other W4 ⟨Wm.heap.size + 1, 0, none⟩ Wm.heap.size (.func (Fn.func 75) #[] #[.pointer (some ⟨Wm.heap.size, 0, none⟩), .pointer (some ⟨w.heap.size, 0, none⟩), .pointer (some ⟨Wm.heap.size + 1, 0, none⟩)]) (by show Wm.heap.size ≠ Wm.heap.size + 1; omega)
  rw [hk0] at hk5
  have hv5 := heap_setCell_same W4 (Wm.heap.size + 1) 0 _ _ (.func (Fn.func 75) #[] #[.pointer (some ⟨Wm.heap.size, 0, none⟩), .pointer (some ⟨w.heap.size, 0, none⟩), .pointer (some ⟨Wm.heap.size + 1, 0, none⟩)]) hx0
  have hb5 : Below Wm.heap.size Wm (W4.setCell ⟨Wm.heap.size + 1, 0, none⟩ (.func (Fn.func 75) #[] #[.pointer (some ⟨Wm.heap.size, 0, none⟩), .pointer (some ⟨w.heap.size, 0, none⟩), .pointer (some ⟨Wm.heap.size + 1, 0, none⟩)])) := below_st hb4 (Nat.le_succ _) _
  generalize W4.setCell ⟨Wm.heap.size + 1, 0, none⟩ (.func (Fn.func 75) #[] #[.pointer (some ⟨Wm.heap.size, 0, none⟩), .pointer (some ⟨w.heap.size, 0, none⟩), .pointer (some ⟨Wm.heap.size + 1, 0, none⟩)]) = W5 at hR5 hk5 hv5 hb5 ⊢
  have HE := Lib.hid (show Env W5 c W1.heap.size Wm.heap.size w.heap.size (Wm.heap.size + 1) from ⟨hk5, hR5, hv5, by omega, by omega, by omega⟩)
  have HM5 := Lib.hid (HM0.out.up hb5)
  clear hx0 hb4 hk0 hc0 hf0 hl0 hb5
  obtain ⟨r0, r1, r2, r3, r4, r5⟩ := six_cells hR5
  have hc5 := ten_cell0 hv5
  have hm5 := ten_cell0 hk5
  clear hR5 hk5 hv5
  by_cases hn0 : c.n = 0
  · have hn1 : ¬ (0 : Int) < (c.n : Int) := by omega
    have HN0 := Lib.hid hn0
    clear hn0
    go_wp2
    go_ret
    have hn0 := HN0.out
    have hre : reL c = List.replicate c.n false := by
      have h1 := distL_len c
      rw [hn0] at h1 ⊢
      unfold reL
      rw [List.eq_nil_of_length_eq_zero h1]; rfl
    exact ⟨W1, rfl, by rw [hre]; exact HM5.out, HB.out⟩
  · have hpos : 0 < c.n := by omega
    have hn1 : (0 : Int) < (c.n : Int) := by omega
    have hM0 : (List.replicate c.n false)[0]? = some false := by rw [List.getElem?_replicate, if_pos hpos]
    have HV := Lib.hid (show Calls Try.prog 75 #[.int .i64 0, .pointer (some ⟨Wm.heap.size, 0, none⟩), .pointer (some ⟨w.heap.size, 0, none⟩), .pointer (some ⟨Wm.heap.size + 1, 0, none⟩)] W5 (VisRet c W1 (List.replicate c.n false) 0 W5) from vis_any c hf W1 OK1.out _ _ _ _ (List.replicate c.n false) 0 W5 (Nat.le_refl _) hM0 HM5.out HE.out)
    go_wp2_with (go_at_call 75; (with_reducible refine HV.out.mono ?_); rintro e w6 ⟨N, rfl, hm6, hg6, hv6⟩; have hm7 := ten_cell0 (HE.out.grow hg6).km)
    go_ret
    have hre := vis_re OK1.out hpos hm6.len hv6
    exact ⟨W1, rfl, by rw [← hre]; exact hm6, HB.out⟩

end Go.Proofs.Ytpghkdmljanncaa
