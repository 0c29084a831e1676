/- Layer 19: the closure of Reachable. -/
import Derived.Test.YtpghkdmljanncaaFgd
import Derived.Test.YtpghkdmljanncaaFac
import Derived.Laws.EntriesVeiled
namespace Go.Proofs.Ytpghkdmljanncaa
open Go.ChangeShapes Go.WideShapes Go.ChangeAt Go.RowKit Go.PlainAid
set_option linter.unusedSimpArgs false
set_option linter.unusedVariables false

/-- marks that are not set -/
def cntF (M : List Bool) : Nat := (M.filter fun b => !b).length
theorem cntF_mono : ∀ (M N : List Bool), M.length = N.length → (∀ i : Nat, M[i]? = some true → N[i]? = some true) → cntF N ≤ cntF M
  | [], [], _, _ => Nat.le_refl _
  | a :: M, b :: N, hl, h => by
    have ih := cntF_mono M N (by simpa using hl) (fun i hi => by have := h (i + 1) (by simpa using hi); simpa using this)
    have h0 := h 0
    unfold cntF at *
    cases a with
    | true =>
      have hb : b = true := by simpa using h0 rfl
      subst hb
      simpa using ih
    | false => cases b with
      | true => simp; omega
      | false => simp; omega
theorem cntF_set : ∀ (M : List Bool) (k : Nat), M[k]? = some false → cntF (M.set k true) + 1 = cntF M
  | [], k, h => by simp at h
  | a :: M, 0, h => by
    obtain rfl : a = false := by simpa using h
    simp [cntF]
  | a :: M, k + 1, h => by
    have ih := cntF_set M k (by simpa using h)
    unfold cntF at *
    rw [List.set_cons_succ]
    cases a with
    | true => simpa using ih
    | false => simp at ih ⊢; omega
/-- what a visit of a does to the marks -/
structure Vis (c : Cd) (M : List Bool) (a : Nat) (M' : List Bool) : Prop where
  mono : ∀ i : Nat, M[i]? = some true → M'[i]? = some true
  hit : M'[a]? = some true
  clos : ∀ x : Nat, M'[x]? = some true → M[x]? = some true ∨ ∀ t : Nat, (t : Int) ∈ edL c x → M'[t]? = some true
  least : ∀ S : Nat → Prop, S a → (∀ x t : Nat, S x → (t : Int) ∈ edL c x → S t) → ∀ x : Nat, M'[x]? = some true → M[x]? = some true ∨ S x
/-- the visit when the edges T are done; M has a's mark already -/
structure Vst (c : Cd) (M : List Bool) (a : Nat) (T : List Int) (M' : List Bool) : Prop where
  mono : ∀ i : Nat, M[i]? = some true → M'[i]? = some true
  done : ∀ t : Nat, (t : Int) ∈ T → M'[t]? = some true
  clos : ∀ x : Nat, M'[x]? = some true → M[x]? = some true ∨ ∀ t : Nat, (t : Int) ∈ edL c x → M'[t]? = some true
  least : ∀ S : Nat → Prop, S a → (∀ x t : Nat, S x → (t : Int) ∈ edL c x → S t) → ∀ x : Nat, M'[x]? = some true → M[x]? = some true ∨ S x
theorem Vst.start (c : Cd) (M : List Bool) (a : Nat) : Vst c M a [] M := ⟨fun _ h => h, fun t h => absurd h List.not_mem_nil, fun x h => Or.inl h, fun _ _ _ x h => Or.inl h⟩
theorem mem_snoc {T : List Int} {s t : Nat} (h : (s : Int) ∈ T ++ [(t : Int)]) : (s : Int) ∈ T ∨ s = t := by
  rcases List.mem_append.1 h with h | h
  · exact Or.inl h
  · have := List.mem_singleton.1 h
    exact Or.inr (by omega)
theorem Vst.old {c : Cd} {M M' : List Bool} {a t : Nat} {T : List Int} (h : Vst c M a T M') (ht : M'[t]? = some true) : Vst c M a (T ++ [(t : Int)]) M' := by
  refine ⟨h.mono, fun s hs => ?_, h.clos, h.least⟩
  rcases mem_snoc hs with hs | hs
  · exact h.done s hs
  · rw [hs]; exact ht
theorem Vst.new {c : Cd} {M M' N : List Bool} {a t : Nat} {T : List Int} (h : Vst c M a T M') (ht : (t : Int) ∈ edL c a) (hv : Vis c M' t N) : Vst c M a (T ++ [(t : Int)]) N := by
  refine ⟨fun i hi => hv.mono i (h.mono i hi), fun s hs => ?_, fun x hx => ?_, fun S ha hS x hx => ?_⟩
  · rcases mem_snoc hs with hs | hs
    · exact hv.mono s (h.done s hs)
    · rw [hs]; exact hv.hit
  · rcases hv.clos x hx with h1 | h1
    · rcases h.clos x h1 with h2 | h2
      · exact Or.inl h2
      · exact Or.inr fun s hs => hv.mono s (h2 s hs)
    · exact Or.inr h1
  · rcases hv.least S (hS a t ha ht) hS x hx with h1 | h1
    · exact h.least S ha hS x h1
    · exact Or.inr h1
theorem set_true {M : List Bool} {a x : Nat} (hx : (M.set a true)[x]? = some true) : M[x]? = some true ∨ x = a := by
  rw [List.getElem?_set] at hx
  by_cases e : a = x
  · exact Or.inr e.symm
  · rw [if_neg e] at hx; exact Or.inl hx
theorem true_set {M : List Bool} {a x : Nat} (hx : M[x]? = some true) : (M.set a true)[x]? = some true := by
  rw [List.getElem?_set]
  by_cases e : a = x
  · have := get_ltF hx
    rw [if_pos e, if_pos (by omega)]
  · rw [if_neg e]; exact hx
theorem Vst.fin {c : Cd} {M M' : List Bool} {a : Nat} (ha : a < M.length) (h : Vst c (M.set a true) a (edL c a) M') : Vis c M a M' := by
  have hin : (M.set a true)[a]? = some true := by rw [List.getElem?_set, if_pos rfl, if_pos ha]
  refine ⟨fun i hi => h.mono i (true_set hi), h.mono a hin, fun x hx => ?_, fun S hS1 hS2 x hx => ?_⟩
  · rcases h.clos x hx with h1 | h1
    · rcases set_true h1 with h2 | h2
      · exact Or.inl h2
      · exact Or.inr fun t ht => h.done t (by rw [h2] at ht; exact ht)
    · exact Or.inr h1
  · rcases h.least S hS1 hS2 x hx with h1 | h1
    · rcases set_true h1 with h2 | h2
      · exact Or.inl h2
      · exact Or.inr (by rw [h2]; exact hS1)
    · exact Or.inr h1
/-- the boxes that the closure holds -/
structure Env (w : World) (c : Cd) (g mB cB vB : Nat) : Prop where
  km : w.heap[mB]? = some (.cells #[.slice (some ⟨g, 0, none⟩) c.n c.n] 54)
  cb : w.heap[cB]? = some (.cells #[.int .i64 c.st, .int .i64 c.lo, .slice c.iA c.n c.ic, .slice c.hA c.hn c.hc, .slice c.mA c.mn c.mc, .slice c.lA c.ln c.lc] 50)
  vb : w.heap[vB]? = some (.cells #[.func (Fn.func 75) #[] #[.pointer (some ⟨mB, 0, none⟩), .pointer (some ⟨cB, 0, none⟩), .pointer (some ⟨vB, 0, none⟩)]] 89)
  nm : mB ≠ g
  nc : cB ≠ g
  nv : vB ≠ g
theorem Env.grow {w w' : World} {c : Cd} {g mB cB vB : Nat} (h : Env w c g mB cB vB) (hg : w.grownBy w' (some g)) : Env w' c g mB cB vB :=
  ⟨(hg.block _ (lt_heap h.km) (fun e => h.nm (Option.some.inj e))).trans h.km, (hg.block _ (lt_heap h.cb) (fun e => h.nc (Option.some.inj e))).trans h.cb, (hg.block _ (lt_heap h.vb) (fun e => h.nv (Option.some.inj e))).trans h.vb, h.nm, h.nc, h.nv⟩
theorem below_grow {w w' : World} {r : Option Nat} (h : Below w.heap.size w w') : w.grownBy w' r := ⟨h.os, h.tape, h.output, h.size, fun b hb _ => h.block b hb⟩
def VisRet (c : Cd) (W1 : World) (M : List Bool) (a : Nat) (w : World) (e : Ending) (w' : World) : Prop :=
  ∃ M', e = .returned (.tuple #[]) ∧ Mk W1 w' c.n M' ∧ w.grownBy w' (some W1.heap.size) ∧ Vis c M a M'
set_option maxRecDepth 100000 in
set_option maxHeartbeats 4000000 in
theorem vis_step (c : Cd) (hf : c.few) (W1 : World) (hok : c.ok W1) (mB cB vB k : Nat)
    (ih : ∀ (M : List Bool) (a : Nat) (w : World), cntF M ≤ k → M[a]? = some false → Mk W1 w c.n M → Env w c W1.heap.size mB cB vB → Calls Try.prog 75 #[.int .i64 a, .pointer (some ⟨mB, 0, none⟩), .pointer (some ⟨cB, 0, none⟩), .pointer (some ⟨vB, 0, none⟩)] w (VisRet c W1 M a w))
    (M : List Bool) (a : Nat) (w : World) (hk : cntF M ≤ k + 1) (ha : M[a]? = some false) (hm : Mk W1 w c.n M) (he : Env w c W1.heap.size mB cB vB) :
    Calls Try.prog 75 #[.int .i64 a, .pointer (some ⟨mB, 0, none⟩), .pointer (some ⟨cB, 0, none⟩), .pointer (some ⟨vB, 0, none⟩)] w (VisRet c W1 M a w) := by
  have IH := Lib.hid ih
  have OK := Lib.hid hok
  have hcn := hf.n
  have hal : a < c.n := by have := get_ltF ha; have := hm.len; omega
  have ha0 : (0 : Int) ≤ (a : Int) := by omega
  have ha1 : (a : Int) < (c.n : Int) := by omega
  have hcm := ten_cell0 he.km
  have hca := hm.cell ha
  have hfz := hm.own.frozenAt a
  have hgw := hm.sz
  have HE := Lib.hid he
  have HM := Lib.hid hm
  have HA := Lib.hid ha
  have HK := Lib.hid (show cntF (M.set a true) ≤ k by have := cntF_set M a ha; omega)
  clear ih hok he hm ha hk
  go_enter Try.func75, Try.ntmps75
  go_upto_region 1 with fail
  have hg2 := grown_set (w := w) (g := W1.heap.size) (j := a) (u := .bool true)
  have HG2 := Lib.hid hg2
  have HM2 := Lib.hid (HM.out.put a true)
  have HE2 := Lib.hid (HE.out.grow hg2)
  clear hca hfz hgw hcm hg2
  generalize w.setCell ⟨W1.heap.size, a, none⟩ (.bool true) = W2 at HG2 HM2 HE2 ⊢
  have hgw := HM2.out.sz
  obtain ⟨r0, r1, r2, r3, r4, r5⟩ := six_cells HE2.out.cb
  have OK2 := Lib.hid (OK.out.up HM2.out.bel)
  obtain ⟨T, hT⟩ : ∃ T, edL c a = T := ⟨_, rfl⟩
  have HT := Lib.hid hT
  have HTB := Lib.hid (show ∀ t ∈ T, 0 ≤ t ∧ t < c.n by rw [← hT]; exact edL_bd OK.out a)
  have htl : T.length ≤ 142 := by rw [← hT]; exact edL_few OK.out hf a
  obtain ⟨m, hm⟩ : ∃ m, T.length = m := ⟨_, rfl⟩
  have HTL := Lib.hid hm
  rw [hm] at htl
  clear hT hm
  go_upto_region 2 with (go_at_call 76; (with_reducible refine (eds_any c _ _ OK2.out).mono ?_); rintro e w3 ⟨v3, rfl, ho3, hb3⟩; rw [HT.out, HTL.out] at ho3; obtain ⟨A3, c3, rfl, hc3, hm3, _⟩ := own_form ho3)
  have HO3 := Lib.hid ho3
  have HG3 := Lib.hid (show W2.grownBy w3 (some W1.heap.size) from below_grow hb3)
  have HM3 := Lib.hid (HM2.out.up hb3)
  have HOF := Lib.hid (show (Value.slice A3 m c3).ownBlock ≠ some W1.heap.size from fun e => by have := (ho3.lt _ e).1; omega)
  obtain ⟨Bo, hBo⟩ : ∃ Bo, W2.heap.size = Bo := ⟨_, rfl⟩
  rw [hBo] at HO3
  clear ho3 hb3 r0 r1 r2 r3 r4 r5 hBo
  go_loopw [14] (fun z wr => ∃ (j : Nat) (M' : List Bool), j ≤ m ∧ z = .int .i64 j ∧ Mk W1 wr c.n M' ∧ W2.grownBy wr (some W1.heap.size) ∧ Vst c (M.set a true) a (T.take j) M' ∧ wr.ownsRow Bo 3 1 (.slice A3 m c3) m (Ri T)) (fun z _ => m - (intOf z).toNat)
  case atStart => exact ⟨0, _, Nat.zero_le _, rfl, HM3.out, HG3.out, Vst.start _ _ _, HO3.out⟩
  case round =>
    clear HO3 HG3 HM3
    obtain ⟨j, M', hj, rfl, hm, hg, hv, how⟩ := hrel
    have HM' := Lib.hid hm
    have HG' := Lib.hid hg
    have HV := Lib.hid hv
    have HOW := Lib.hid how
    have HE' := Lib.hid (HE2.out.grow hg)
    clear hg hv
    by_cases hjt : j < m
    · obtain ⟨t, ht⟩ := get_someF (l := T) (k := j) (by rw [HTL.out]; exact hjt)
      have HTM := Lib.hid (List.mem_of_getElem? ht)
      obtain ⟨ht0, ht1⟩ := HTB.out t HTM.out
      obtain ⟨kt, rfl⟩ : ∃ kt : Nat, t = (kt : Int) := ⟨t.toNat, by omega⟩
      obtain ⟨gs, os, rfl, hgs, hcs⟩ := row_get (Row.of_own how).1 ht
      have HTK := Lib.hid (take_snocF ht)
      obtain ⟨b, hb⟩ := get_someF (l := M') (k := kt) (by rw [hm.len]; omega)
      have hcb := hm.cell hb
      have hcm := ten_cell0 HE'.out.km
      have hcv := ten_cell0 HE'.out.vb
      have hj0 : (0 : Int) ≤ (j : Int) := by omega
      have hj1 : (j : Int) < (m : Int) := by omega
      clear ht how hm
      cases b with
      | true =>
        have HBT := Lib.hid hb
        clear hb
        go_wp2
        exact ⟨⟨j + 1, M', hjt, by go_num, HM'.out, HG'.out, by rw [HTK.out]; exact HV.out.old HBT.out, HOW.out⟩, by simp [intOf]; omega⟩
      | false =>
        have HBT := Lib.hid hb
        have hlen : M'.length = (M.set a true).length := by have h1 := HM'.out.len; have h2 := HM2.out.len; omega
        have HCN := Lib.hid (show cntF M' ≤ k from Nat.le_trans (cntF_mono _ _ hlen.symm HV.out.mono) HK.out)
        clear hb hlen
        go_wp2_with (go_at_call 75; (with_reducible refine (IH.out M' kt _ HCN.out HBT.out HM'.out HE'.out).mono ?_); rintro e w6 ⟨N, rfl, hm6, hg6, hv6⟩)
        have hk6 := HOW.out.kept hg6 (Or.inr HOF.out)
        exact ⟨⟨j + 1, N, hjt, by go_num, hm6, HG'.out.trans hg6, by rw [HTK.out]; exact HV.out.new (by rw [HT.out]; exact HTM.out) hv6, hk6⟩, by simp [intOf]; omega⟩
    · obtain ⟨rfl⟩ : m = j := by omega
      have hfin : Vis c M a M' := by
        have := HV.out
        rw [List.take_of_length_le (by rw [HTL.out]; exact Nat.le_refl _), ← HT.out] at this
        exact this.fin (get_ltF HA.out)
      go_wp2
      go_end0
      exact ⟨M', rfl, HM'.out, HG2.out.trans HG'.out, hfin⟩
theorem vis_any (c : Cd) (hf : c.few) (W1 : World) (hok : c.ok W1) (mB cB vB : Nat) : ∀ (k : Nat) (M : List Bool) (a : Nat) (w : World), cntF M ≤ k → M[a]? = some false → Mk W1 w c.n M → Env w c W1.heap.size mB cB vB →
    Calls Try.prog 75 #[.int .i64 a, .pointer (some ⟨mB, 0, none⟩), .pointer (some ⟨cB, 0, none⟩), .pointer (some ⟨vB, 0, none⟩)] w (VisRet c W1 M a w)
  | 0, M, a, w, hk, ha, _, _ => by have := cntF_set M a ha; omega
  | k + 1, M, a, w, hk, ha, hm, he => vis_step c hf W1 hok mB cB vB k (fun M a w h1 h2 h3 h4 => vis_any c hf W1 hok mB cB vB k M a w h1 h2 h3 h4) M a w hk ha hm he

end Go.Proofs.Ytpghkdmljanncaa
