import Derived.Test.YtalejaklggnnpaaGreatDoorKitS
import Derived.OrdersHeld
import Derived.RegionTactic
/- A region that draws its order, walked step by step: what only reads is taken first, as long as the region's last operation (which writes) has not come up. -/
namespace Go.Proofs.YtalejaklggnnpaaGreatDoor.I
open Go.ChangeShapes Go.WideShapes Go.ChangeAt Go.RowKit
set_option linter.unusedSimpArgs false
set_option linter.unusedVariables false
section
variable {P : Program} {ops : Array Oper} {Q : Exit → Act → World → Prop} {md : Region.Mode} {S : World → Prop} {N : Nat}
/-- whatever order is drawn; S holds behind every operation but the N-th -/
def wpAnyN (P : Program) (md : Region.Mode) (ops : Array Oper) (Q : Exit → Act → World → Prop) (S : World → Prop) (N : Nat) : Nat → Array Bool → Act → World → Prop
 | 0, l, a, w => Region.ready md ops l = [] ∧ Q .normal a w
 | k + 1, l, a, w =>
  (Region.ready md ops l = [] → Q .normal a w) ∧
  ∀ i ∈ Region.ready md ops l, wpOp P ops Q i (fun b u => (i ≠ N → S u) ∧ wpAnyN P md ops Q S N k (l.setIfInBounds i true) b u) a w
theorem wpAny_of_N : ∀ (k : Nat) (l : Array Bool) (a : Act) (w : World), wpAnyN P md ops Q S N k l a w → wpAny P md ops Q k l a w
 | 0, _, _, _, h => h
 | k + 1, _, _, _, h => ⟨h.1, fun i hi => wpOp_mono (fun b u hb => wpAny_of_N k _ b u hb.2) (h.2 i hi)⟩
theorem wpAnyN_first {i : Nat} {oi : Oper} {v : Value} (hi : ops[i]? = some oi) (hsel : ∀ (j : Nat) (o : Oper) cs b, ops[j]? = some o → o.op ≠ .select cs b)
  (hQ : ∀ c a w, Q (.panic c) (a.put oi.dst v) w → Q (.panic c) a w) (hN : ∀ o, ops[N]? = some o → ∃ e ∈ o.after, Region.binds md e = true ∧ e.on = i) :
  ∀ (k : Nat) (l : Array Bool) (a : Act) (w : World),
   (∀ j oj, ops[j]? = some oj → j ≠ i → l.getD j true = false → (∀ e ∈ oj.after, Region.binds md e = true → e.on ≠ i) → oi.apart ops oj = true) →
   i ∈ Region.ready md ops l → YieldsIf P ops S oi v a → S w →
   wpAnyN P md ops Q S N k (l.setIfInBounds i true) (a.put oi.dst v) w → wpAnyN P md ops Q S N (k + 1) l a w := by
 intro k
 induction k with
 | zero =>
  intro l a w _ hr hy hS H
  refine ⟨fun h => (by rw [h] at hr; cases hr), fun j hj => ?_⟩
  by_cases e : j = i
  ·
   subst e
   exact hy.wpOp hi hS ⟨fun _ => hS, H⟩
  ·
   have h1 := ready_mono hj e
   rw [H.1] at h1
   cases h1
 | succ k ih =>
  intro l a w hfree hr hy hS H
  refine ⟨fun h => (by rw [h] at hr; cases hr), fun j hj => ?_⟩
  by_cases e : j = i
  ·
   subst e
   exact hy.wpOp hi hS ⟨fun _ => hS, H⟩
  ·
   have h1 := H.2 j (ready_mono hj e)
   obtain ⟨hjun, oj, hoj, hall⟩ := mem_ready.1 hj
   have hnot : ∀ x ∈ oj.after, Region.binds md x = true → x.on ≠ i := fun x hx hb heq => by
    have h1 := hall x hx hb
    have h0 := (mem_ready.1 hr).1
    rw [heq] at h1
    rcases Nat.lt_or_ge i l.size with h' | h'
    ·
     simp [h'] at h0 h1; rw [h0] at h1; cases h1
    ·
     simp [Array.getElem?_eq_none h'] at h1
   have hjN : j ≠ N := fun e2 => by
    subst e2
    obtain ⟨x, hx, hb, ho⟩ := hN oj hoj
    exact hnot x hx hb ho
   have h2 := wpOp_putIf hoj (hfree j oj hoj e hjun hnot) (fun cs b => hsel i oi cs b hi) (fun cs b => hsel j oj cs b hoj) hQ hy h1
   have hfree' : ∀ m om, ops[m]? = some om → m ≠ i → (l.setIfInBounds j true).getD m true = false →
     (∀ x ∈ om.after, Region.binds md x = true → x.on ≠ i) → oi.apart ops om = true := fun m om hm hmi hun hno => by
    refine hfree m om hm hmi ?_ hno
    by_cases hjm : j = m
    ·
     subst hjm; exact hjun
    ·
     rw [getD_set_ne true hjm] at hun; exact hun
   refine wpOp_mono (fun b u h3 => ⟨fun _ => h3.2.1 hjN, ih (l.setIfInBounds j true) b u hfree' (ready_mono hr (Ne.symm e)) h3.1 (h3.2.1 hjN) ?_⟩) h2
   rw [Array.setIfInBounds_comm _ _ e]
   exact h3.2.2
/-- does the N-th operation wait for the i-th? -/
def waitsN (md : Region.Mode) (ops : Array Oper) (N i : Nat) : Bool := match ops[N]? with | some o => o.after.any fun e => Region.binds md e && e.on == i | none => true
theorem waitsN_spec {i : Nat} (h : waitsN md ops N i = true) (o : Oper) (ho : ops[N]? = some o) : ∃ e ∈ o.after, Region.binds md e = true ∧ e.on = i := by
 unfold waitsN at h
 rw [ho] at h
 obtain ⟨e, he, hb⟩ := Array.any_eq_true'.1 h
 rw [Bool.and_eq_true] at hb
 exact ⟨e, he, hb.1, eq_of_beq hb.2⟩
theorem regN_start {id : Nat} {a : Act} {w : World} (hm : P.follows .mixedOrders = true) (h : wpAnyN P .any ops Q S N ops.size (Array.replicate ops.size false) a w.drew) : (Code.region id ops true).wp P Q a w :=
 wp_region_any hm (wpAny_of_N _ _ _ _ h)
theorem regN_take {i : Nat} {oi : Oper} {d : Option Tmp} {v : Value} {k : Nat} {l l2 : Array Bool} {a : Act} {w : World} (hi : ops[i]? = some oi) (hd : oi.dst = d) (hl : l.setIfInBounds i true = l2)
  (hs : Region.noSelect ops = true) (hf : Region.free md ops l i = true) (hr : (Region.ready md ops l).contains i = true) (hN : waitsN md ops N i = true)
  (hQ : ∀ c a w, Q (.panic c) (a.put d v) w → Q (.panic c) a w) (hw : Region.wanted oi (yielded ops a.tmps) = true) (hv : ∀ w, S w → (execOp a.eval oi).run P w = .ok (.value v) w) (hS : S w)
  (h : wpAnyN P md ops Q S N k l2 (a.put d v) w) : wpAnyN P md ops Q S N (k + 1) l a w := by
 subst hd hl
 exact wpAnyN_first hi (Region.noSelect_spec hs) hQ (waitsN_spec hN) k l a w (Region.free_spec hi hf) (by simpa using hr) (Or.inl ⟨hw, hv⟩) hS h
theorem regN_skip {i : Nat} {oi : Oper} {d : Option Tmp} {k : Nat} {l l2 : Array Bool} {a : Act} {w : World} (hi : ops[i]? = some oi) (hd : oi.dst = d) (hl : l.setIfInBounds i true = l2)
  (hs : Region.noSelect ops = true) (hf : Region.free md ops l i = true) (hr : (Region.ready md ops l).contains i = true) (hN : waitsN md ops N i = true)
  (hQ : ∀ c a w, Q (.panic c) (a.put d undef) w → Q (.panic c) a w) (hw : Region.wanted oi (yielded ops a.tmps) = false) (hS : S w)
  (h : wpAnyN P md ops Q S N k l2 (a.put d undef) w) : wpAnyN P md ops Q S N (k + 1) l a w := by
 subst hd hl
 exact wpAnyN_first hi (Region.noSelect_spec hs) hQ (waitsN_spec hN) k l a w (Region.free_spec hi hf) (by simpa using hr) (Or.inr ⟨hw, rfl⟩) hS h
/-- N waits for the operations C one behind the other, none of which has come up, and the last of them for i -/
def chainB (md : Region.Mode) (ops : Array Oper) (l : Array Bool) : Nat → List Nat → Nat → Bool
 | N, [], i => match ops[N]? with | some o => o.after.any fun e => Region.binds md e && e.on == i | none => true
 | N, m :: C, i => (match ops[N]? with | some o => o.after.any fun e => Region.binds md e && e.on == m | none => true) && (!l.getD m true && chainB md ops l m C i)
theorem ready_no {l : Array Bool} {j i : Nat} {o : Oper} (ho : ops[j]? = some o) (hj : j ∈ Region.ready md ops l) (hw : (o.after.any fun e => Region.binds md e && e.on == i) = true) (hi : l.getD i true = false) : False := by
 obtain ⟨_, o', ho', hall⟩ := mem_ready.1 hj
 rw [ho] at ho'
 obtain rfl := Option.some.inj ho'
 obtain ⟨e, he, hb⟩ := Array.any_eq_true'.1 hw
 rw [Bool.and_eq_true] at hb
 have h1 := hall e he hb.1
 rw [eq_of_beq hb.2] at h1
 rcases Nat.lt_or_ge i l.size with h' | h'
 ·
  simp [h'] at hi h1; rw [hi] at h1; cases h1
 ·
  simp [Array.getElem?_eq_none h'] at h1
theorem chain_step {l : Array Bool} {i j : Nat} (hi : l.getD i true = false) (hj : j ∈ Region.ready md ops l) : ∀ (C : List Nat) (N : Nat), chainB md ops l N C i = true → j ≠ N ∧ chainB md ops (l.setIfInBounds j true) N C i = true
 | [], N, h => by
  refine ⟨fun e => ?_, h⟩
  subst e
  obtain ⟨_, o, ho, _⟩ := mem_ready.1 hj
  unfold chainB at h
  rw [ho] at h
  exact ready_no ho hj h hi
 | m :: C, N, h => by
  have h' := h
  unfold chainB at h
  rw [Bool.and_eq_true, Bool.and_eq_true] at h
  obtain ⟨h1, h2, h3⟩ := h
  have hm : l.getD m true = false := by simpa using h2
  obtain ⟨hjm, h4⟩ := chain_step hi hj C m h3
  refine ⟨fun e => ?_, ?_⟩
  ·
   subst e
   obtain ⟨_, o, ho, _⟩ := mem_ready.1 hj
   rw [ho] at h1
   exact ready_no ho hj h1 hm
  ·
   unfold chainB
   rw [Bool.and_eq_true, Bool.and_eq_true]
   exact ⟨h1, by rw [getD_set_ne true hjm, hm]; rfl, h4⟩
theorem wpAnyN_firstC {i : Nat} {oi : Oper} {v : Value} (C : List Nat) (hi : ops[i]? = some oi) (hsel : ∀ (j : Nat) (o : Oper) cs b, ops[j]? = some o → o.op ≠ .select cs b)
  (hQ : ∀ c a w, Q (.panic c) (a.put oi.dst v) w → Q (.panic c) a w) :
  ∀ (k : Nat) (l : Array Bool) (a : Act) (w : World), chainB md ops l N C i = true →
   (∀ j oj, ops[j]? = some oj → j ≠ i → l.getD j true = false → (∀ e ∈ oj.after, Region.binds md e = true → e.on ≠ i) → oi.apart ops oj = true) →
   i ∈ Region.ready md ops l → YieldsIf P ops S oi v a → S w →
   wpAnyN P md ops Q S N k (l.setIfInBounds i true) (a.put oi.dst v) w → wpAnyN P md ops Q S N (k + 1) l a w := by
 intro k
 induction k with
 | zero =>
  intro l a w _ _ hr hy hS H
  refine ⟨fun h => (by rw [h] at hr; cases hr), fun j hj => ?_⟩
  by_cases e : j = i
  ·
   subst e
   exact hy.wpOp hi hS ⟨fun _ => hS, H⟩
  ·
   have h1 := ready_mono hj e
   rw [H.1] at h1
   cases h1
 | succ k ih =>
  intro l a w hch hfree hr hy hS H
  refine ⟨fun h => (by rw [h] at hr; cases hr), fun j hj => ?_⟩
  by_cases e : j = i
  ·
   subst e
   exact hy.wpOp hi hS ⟨fun _ => hS, H⟩
  ·
   have h1 := H.2 j (ready_mono hj e)
   obtain ⟨hjun, oj, hoj, hall⟩ := mem_ready.1 hj
   have hnot : ∀ x ∈ oj.after, Region.binds md x = true → x.on ≠ i := fun x hx hb heq => by
    have h1 := hall x hx hb
    have h0 := (mem_ready.1 hr).1
    rw [heq] at h1
    rcases Nat.lt_or_ge i l.size with h' | h'
    ·
     simp [h'] at h0 h1; rw [h0] at h1; cases h1
    ·
     simp [Array.getElem?_eq_none h'] at h1
   obtain ⟨hjN, hch'⟩ := chain_step (mem_ready.1 hr).1 hj C N hch
   have h2 := wpOp_putIf hoj (hfree j oj hoj e hjun hnot) (fun cs b => hsel i oi cs b hi) (fun cs b => hsel j oj cs b hoj) hQ hy h1
   have hfree' : ∀ m om, ops[m]? = some om → m ≠ i → (l.setIfInBounds j true).getD m true = false →
     (∀ x ∈ om.after, Region.binds md x = true → x.on ≠ i) → oi.apart ops om = true := fun m om hm hmi hun hno => by
    refine hfree m om hm hmi ?_ hno
    by_cases hjm : j = m
    ·
     subst hjm; exact hjun
    ·
     rw [getD_set_ne true hjm] at hun; exact hun
   refine wpOp_mono (fun b u h3 => ⟨fun _ => h3.2.1 hjN, ih (l.setIfInBounds j true) b u hch' hfree' (ready_mono hr (Ne.symm e)) h3.1 (h3.2.1 hjN) ?_⟩) h2
   rw [Array.setIfInBounds_comm _ _ e]
   exact h3.2.2
theorem regN_takeC {i : Nat} {oi : Oper} {d : Option Tmp} {v : Value} {k : Nat} {l l2 : Array Bool} {a : Act} {w : World} (C : List Nat) (hi : ops[i]? = some oi) (hd : oi.dst = d) (hl : l.setIfInBounds i true = l2)
  (hs : Region.noSelect ops = true) (hf : Region.free md ops l i = true) (hr : (Region.ready md ops l).contains i = true) (hN : chainB md ops l N C i = true)
  (hQ : ∀ c a w, Q (.panic c) (a.put d v) w → Q (.panic c) a w) (hw : Region.wanted oi (yielded ops a.tmps) = true) (hv : ∀ w, S w → (execOp a.eval oi).run P w = .ok (.value v) w) (hS : S w)
  (h : wpAnyN P md ops Q S N k l2 (a.put d v) w) : wpAnyN P md ops Q S N (k + 1) l a w := by
 subst hd hl
 exact wpAnyN_firstC C hi (Region.noSelect_spec hs) hQ k l a w hN (Region.free_spec hi hf) (by simpa using hr) (Or.inl ⟨hw, hv⟩) hS h
theorem regN_skipC {i : Nat} {oi : Oper} {d : Option Tmp} {k : Nat} {l l2 : Array Bool} {a : Act} {w : World} (C : List Nat) (hi : ops[i]? = some oi) (hd : oi.dst = d) (hl : l.setIfInBounds i true = l2)
  (hs : Region.noSelect ops = true) (hf : Region.free md ops l i = true) (hr : (Region.ready md ops l).contains i = true) (hN : chainB md ops l N C i = true)
  (hQ : ∀ c a w, Q (.panic c) (a.put d undef) w → Q (.panic c) a w) (hw : Region.wanted oi (yielded ops a.tmps) = false) (hS : S w)
  (h : wpAnyN P md ops Q S N k l2 (a.put d undef) w) : wpAnyN P md ops Q S N (k + 1) l a w := by
 subst hd hl
 exact wpAnyN_firstC C hi (Region.noSelect_spec hs) hQ k l a w hN (Region.free_spec hi hf) (by simpa using hr) (Or.inr ⟨hw, rfl⟩) hS h
/-- each of the listed operations may come up next -/
def AllN (P : Program) (md : Region.Mode) (ops : Array Oper) (Q : Exit → Act → World → Prop) (S : World → Prop) (N : Nat) (k : Nat) (l : Array Bool) (a : Act) (w : World) (rs : List Nat) : Prop :=
 ∀ i ∈ rs, wpOp P ops Q i (fun b u => (i ≠ N → S u) ∧ wpAnyN P md ops Q S N k (l.setIfInBounds i true) b u) a w
theorem AllN.nil {k : Nat} {l : Array Bool} {a : Act} {w : World} : AllN P md ops Q S N k l a w [] := fun _ h => by cases h
theorem AllN.cons {k : Nat} {l l2 : Array Bool} {a : Act} {w : World} {i : Nat} {o : Oper} {rs : List Nat} (ho : ops[i]? = some o) (hl : l.setIfInBounds i true = l2)
  (h : ∀ K : Act → World → Prop, (∀ b u, (i ≠ N → S u) → wpAnyN P md ops Q S N k l2 b u → K b u) → if Region.wanted o (yielded ops a.tmps) = true then Oper.wp P o a w K Q else K (a.put o.dst undef) w)
  (hs : AllN P md ops Q S N k l a w rs) : AllN P md ops Q S N k l a w (i :: rs) := fun j hj => by
 rcases List.mem_cons.1 hj with rfl | hj
 ·
  subst hl
  exact wpOp_step ho fun K hK => h K fun b u h1 h2 => hK b u ⟨h1, h2⟩
 ·
  exact hs j hj
theorem regN_ready {rs : List Nat} {k : Nat} {l : Array Bool} {a : Act} {w : World} (hr : Region.ready md ops l = rs) (hne : rs ≠ []) (h : AllN P md ops Q S N k l a w rs) : wpAnyN P md ops Q S N (k + 1) l a w :=
 ⟨fun h0 => absurd (hr ▸ h0) hne, hr ▸ h⟩
theorem regN_done {l : Array Bool} {a : Act} {w : World} (hr : Region.ready md ops l = []) (h : Q .normal a w) : ∀ k, wpAnyN P md ops Q S N k l a w
 | 0 => ⟨hr, h⟩
 | _ + 1 => ⟨fun _ => h, by rw [hr]; simp⟩
end
end Go.Proofs.YtalejaklggnnpaaGreatDoor.I
