import Derived.Test.YtpghkdmljanncaaInTl
import Derived.Test.YtpghkdmljanncaaInSc

/- InDi -/
/- Layer 8: the instructions that a decoding holds. -/
namespace Go.Proofs.Ytpghkdmljanncaa
open Go.ChangeShapes Go.WideShapes Go.ChangeAt Go.RowKit Go.PlainAid
set_option linter.unusedSimpArgs false
set_option linter.unusedVariables false

def In.kv (i : In) : Value := .slice i.kA i.kn i.kc
def In.tv (i : In) : Value := .slice i.tA i.tn i.tc
/-- b is the block of one of the rows -/
def In.blk (i : In) (b : Nat) : Prop := i.kv.ownBlock = some b ∨ i.tv.ownBlock = some b
structure Held (B : Nat) (w : World) (i : In) : Prop where
  bare : i.bare
  nz : i.nz
  ko : w.ownsRow B 3 1 i.kv i.kn (Ri i.ks)
  to : w.ownsRow B 3 1 i.tv i.tn (Ri i.ts)
  ap : Apt i.kv i.tv
theorem own_le {w : World} {B B' e k n : Nat} {v : Value} {xs : List Value} (h : w.ownsRow B e k v n xs) (hB : B' ≤ B) : w.ownsRow B' e k v n xs := by
  refine ⟨h.1, ?_⟩
  rcases h.2 with h2 | ⟨g, cap, cur, hv, hg, hh, rest⟩
  · exact Or.inl h2
  · exact Or.inr ⟨g, cap, cur, hv, by omega, hh, rest⟩
theorem Fresh.held {w w' : World} {i : In} {B : Nat} (h : Fresh w w' i) (hB : B ≤ w.heap.size) : Held B w' i := ⟨h.bare, h.nz, own_le h.ko hB, own_le h.to hB, h.ap⟩
theorem Fresh.high {w w' : World} {i : In} (h : Fresh w w' i) : ∀ b, i.blk b → w.heap.size ≤ b := by
  intro b hb
  rcases hb with hb | hb
  · exact (h.ko.lt b hb).1
  · exact (h.to.lt b hb).1
theorem Held.low {B : Nat} {w : World} {i : In} (h : Held B w i) : ∀ b, i.blk b → b < w.heap.size := by
  intro b hb
  rcases hb with hb | hb
  · exact (h.ko.lt b hb).2
  · exact (h.to.lt b hb).2
theorem Held.below {B : Nat} {w w' : World} {i : In} (h : Held B w i) (hb : Below w.heap.size w w') : Held B w' i := ⟨h.bare, h.nz, own_below h.ko hb, own_below h.to hb, h.ap⟩
/-- a row of another block grows -/
theorem Held.grown {B : Nat} {w w' : World} {i : In} {r : Option Nat} (h : Held B w i) (hg : w.grownBy w' r) (hr : ∀ b, i.blk b → r ≠ some b) : Held B w' i := by
  refine ⟨h.bare, h.nz, h.ko.kept hg ?_, h.to.kept hg ?_, h.ap⟩
  · cases hk : i.kv.ownBlock with
    | none => exact Or.inl rfl
    | some b => exact Or.inr (fun e => hr b (Or.inl hk) e.symm)
  · cases hk : i.tv.ownBlock with
    | none => exact Or.inl rfl
    | some b => exact Or.inr (fun e => hr b (Or.inr hk) e.symm)
theorem Held.ok {B : Nat} {w : World} {i : In} (h : Held B w i) : i.ok w w.heap.size := by
  obtain ⟨_, c1, hv1, a1, b1, _⟩ := own_form h.ko
  obtain ⟨_, c2, hv2, a2, b2, _⟩ := own_form h.to
  unfold In.kv at hv1
  unfold In.tv at hv2
  injection hv1 with _ _ e1
  injection hv2 with _ _ e2
  subst e1 e2
  obtain ⟨r1, l1⟩ := Row.of_own h.ko
  obtain ⟨r2, l2⟩ := Row.of_own h.to
  unfold maxLen at b1 b2
  exact ⟨l1, a1, b1, r1, l2, a2, b2, r2⟩
/-- rows of different types have different blocks -/
theorem own_types {w : World} {B B' e e' k k' n n' b : Nat} {v v' : Value} {xs xs' : List Value} (h : w.ownsRow B e k v n xs) (h2 : w.ownsRow B' e' k' v' n' xs') (he : e ≠ e') (h3 : v.ownBlock = some b) : v'.ownBlock ≠ some b := by
  intro h4
  rcases h.2 with ⟨rfl, _⟩ | ⟨g, cap, cur, rfl, _, hg, _⟩
  · cases h3
  · rcases h2.2 with ⟨rfl, _⟩ | ⟨g', cap', cur', rfl, _, hg', _⟩
    · cases h4
    · have e1 : g = b := Option.some.inj h3
      have e2 : g' = b := Option.some.inj h4
      subst e1
      subst e2
      rw [hg] at hg'
      have := Option.some.inj hg'
      injection this with _ h5 _
      exact he h5
structure DecI (w wr : World) (M : List In) (v : Value) (P : List Int) (v2 : Value) : Prop where
  own : wr.ownsRow w.heap.size 26 10 v M.length (irow M)
  pl : wr.ownsRow w.heap.size 3 1 v2 P.length (Ri P)
  held : ∀ i ∈ M, Held w.heap.size wr i
  sep : M.Pairwise (fun i j => ∀ b, i.blk b → ¬ j.blk b)
  plk : ∀ i ∈ M, ∀ b, i.blk b → v2.ownBlock ≠ some b
  bel : Below w.heap.size w wr
theorem DecI.start {w : World} : DecI w w [] (.slice none 0 0) [] (.slice none 0 0) :=
  ⟨World.ownsRow_nil _ _ _ _, World.ownsRow_nil _ _ _ _, (fun i hi => by cases hi), List.Pairwise.nil, (fun i hi => by cases hi), Below.refl _ _⟩
theorem DecI.below {w wr w1 : World} {M : List In} {v v2 : Value} {P : List Int} (I : DecI w wr M v P v2) (hb : Below wr.heap.size wr w1) : DecI w w1 M v P v2 :=
  ⟨own_below I.own hb, own_below I.pl hb, fun i hi => (I.held i hi).below hb, I.sep, I.plk, below_on I.bel hb⟩
/-- an instruction more -/
theorem DecI.add {w wr w1 w2 : World} {M : List In} {v v' v2 : Value} {P : List Int} {i : In} (I : DecI w w1 M v P v2) (hi : Held w.heap.size w1 i) (hnew : ∀ b, i.blk b → wr.heap.size ≤ b) (hold : ∀ j ∈ M, ∀ b, j.blk b → b < wr.heap.size) (hpl : ∀ b, v2.ownBlock = some b → b < wr.heap.size)
    (ho : w2.ownsRow w.heap.size 26 10 v' (M.length + 1) (irow (M ++ [i]))) (hg : w1.grownBy w2 v.ownBlock) : DecI w w2 (M ++ [i]) v' P v2 := by
  have nm : ∀ j, Held w.heap.size w1 j → ∀ b, j.blk b → v.ownBlock ≠ some b := by
    intro j hj b hb e
    rcases hb with hb | hb
    · exact own_types I.own hj.ko neNI e hb
    · exact own_types I.own hj.to neNI e hb
  refine ⟨by rw [List.length_append]; exact ho, I.pl.kept hg ?_, ?_, ?_, ?_, grown_own I.bel I.own hg⟩
  · cases hk : v2.ownBlock with
    | none => exact Or.inl rfl
    | some b => exact Or.inr (fun e => own_types I.own I.pl neNI e.symm hk)
  · intro j hj
    rcases List.mem_append.1 hj with hj | hj
    · exact (I.held j hj).grown hg (nm j (I.held j hj))
    · obtain rfl := List.mem_singleton.1 hj
      exact hi.grown hg (nm j hi)
  · rw [List.pairwise_append]
    refine ⟨I.sep, List.pairwise_singleton _ _, fun a ha j hj b hb hb2 => ?_⟩
    obtain rfl := List.mem_singleton.1 hj
    have := hold a ha b hb
    have := hnew b hb2
    omega
  · intro j hj b hb
    rcases List.mem_append.1 hj with hj | hj
    · exact I.plk j hj b hb
    · obtain rfl := List.mem_singleton.1 hj
      intro e
      have := hpl b e
      have := hnew b hb
      omega
/-- a place more -/
theorem DecI.place {w w1 w2 : World} {M : List In} {v v2 v2' : Value} {P : List Int} {x : Int} (I : DecI w w1 M v P v2)
    (ho : w2.ownsRow w.heap.size 3 1 v2' (P.length + 1) (Ri (P ++ [x]))) (hg : w1.grownBy w2 v2.ownBlock) (hl : Lies w1 v2 v2') : DecI w w2 M v (P ++ [x]) v2' := by
  refine ⟨I.own.kept hg ?_, by rw [List.length_append]; exact ho, fun i hi => (I.held i hi).grown hg (fun b hb => I.plk i hi b hb), I.sep, ?_, grown_own I.bel I.pl hg⟩
  · cases hk : v.ownBlock with
    | none => exact Or.inl rfl
    | some b => exact Or.inr (fun e => own_types I.own I.pl neNI hk e.symm)
  · intro i hi b hb e
    rcases hl with hl | ⟨g, hl, hge⟩
    · rw [hl] at e; exact I.plk i hi b hb e
    · rw [hl] at e
      have e := Option.some.inj e
      have := (I.held i hi).low b hb
      omega
theorem DecI.ins {w wr : World} {M : List In} {A : Option Addr} {n c : Nat} {v2 : Value} {P : List Int} (I : DecI w wr M (.slice A n c) P v2) : Ins wr wr.heap.size A M ∧ M.length = n := by
  obtain ⟨A1, c1, hv, _, _, _⟩ := own_form I.own
  injection hv with h1 h2 h3
  subst h2
  exact Ins.of_own I.own (fun i hi => (I.held i hi).ok)

/- targets turned into indices, in place -/
def In.setT (i : In) (x : Int) : In := { i with t := x }
def In.setTs (i : In) (j : Nat) (x : Int) : In := { i with ts := i.ts.set j x }
theorem irow_set : ∀ (M : List In) (k : Nat) (i : In) (x : Int), M[k]? = some i → irow (M.set k (i.setT x)) = (irow M).set (k * 10 + 3) (.int .i64 x)
  | [], k, i, x, h => by simp at h
  | q :: r, 0, i, x, h => by
    obtain rfl : q = i := by simpa using h
    rw [List.set_cons_zero, irow_cons, irow_cons]
    rfl
  | q :: r, k + 1, i, x, h => by
    rw [List.set_cons_succ, irow_cons, irow_cons, irow_set r k i x (by simpa using h)]
    have l10 : (icells q).length = 10 := rfl
    rw [List.set_append_right _ _ (by omega), l10, show (k + 1) * 10 + 3 - 10 = k * 10 + 3 by omega]
theorem irow_setTs : ∀ (M : List In) (k : Nat) (i : In) (j : Nat) (x : Int), M[k]? = some i → irow (M.set k (i.setTs j x)) = irow M
  | [], k, i, j, x, h => by simp at h
  | q :: r, 0, i, j, x, h => by
    obtain rfl : q = i := by simpa using h
    rw [List.set_cons_zero, irow_cons, irow_cons]
    rfl
  | q :: r, k + 1, i, j, x, h => by
    rw [List.set_cons_succ, irow_cons, irow_cons, irow_setTs r k i j x (by simpa using h)]
theorem blk_setT (i : In) (x : Int) (b : Nat) : (i.setT x).blk b ↔ i.blk b := Iff.rfl
theorem blk_setTs (i : In) (j : Nat) (x : Int) (b : Nat) : (i.setTs j x).blk b ↔ i.blk b := Iff.rfl
/-- a list with one of its members changed, the blocks as they are -/
theorem mem_set {M : List In} {k : Nat} {i i' j : In} (h : M[k]? = some i) (hj : j ∈ M.set k i') : j ∈ M ∨ j = i' := by
  rcases List.mem_or_eq_of_mem_set hj with h | h
  · exact Or.inl h
  · exact Or.inr h
theorem sep_set {M : List In} {k : Nat} {i i' : In} (h : M[k]? = some i) (hb : ∀ b, i'.blk b ↔ i.blk b) (hs : M.Pairwise (fun i j => ∀ b, i.blk b → ¬ j.blk b)) : (M.set k i').Pairwise (fun i j => ∀ b, i.blk b → ¬ j.blk b) := by
  rw [List.pairwise_iff_getElem] at hs ⊢
  intro p q hp hq hpq b h1 h2
  rw [List.length_set] at hp hq
  have key : ∀ r (hr : r < M.length), ((M.set k i')[r]'(by rw [List.length_set]; exact hr)).blk b → (M[r]).blk b := by
    intro r hr hx
    rw [List.getElem_set] at hx
    split at hx
    · rename_i hkr
      subst hkr
      have : M[k] = i := by rw [List.getElem?_eq_getElem hr] at h; exact Option.some.inj h
      rw [this]
      exact (hb b).1 hx
    · exact hx
  exact hs p q hp hq hpq b (key p hp h1) (key q hq h2)
/-- the other rows of a list have other blocks -/
theorem sep_ne {M : List In} {k q : Nat} {i j : In} (hs : M.Pairwise (fun i j => ∀ b, i.blk b → ¬ j.blk b)) (h : M[k]? = some i) (hq : M[q]? = some j) (hne : q ≠ k) (b : Nat) (h1 : i.blk b) : ¬ j.blk b := by
  rw [List.pairwise_iff_getElem] at hs
  obtain ⟨hk, rfl⟩ := List.getElem?_eq_some_iff.1 h
  obtain ⟨hq', rfl⟩ := List.getElem?_eq_some_iff.1 hq
  rcases Nat.lt_or_gt_of_ne hne with hlt | hlt
  · intro h2; exact hs q k hq' hk hlt b h2 h1
  · exact hs k q hk hq' hlt b h1
theorem DecI.putT {w wr : World} {M : List In} {g c : Nat} {P : List Int} {v2 : Value} {k : Nat} {i : In} (x : Int) (I : DecI w wr M (.slice (some ⟨g, 0, none⟩) M.length c) P v2) (h : M[k]? = some i) :
    DecI w (wr.setCell ⟨g, k * 10 + 3, none⟩ (.int .i64 x)) (M.set k (i.setT x)) (.slice (some ⟨g, 0, none⟩) M.length c) P v2 := by
  have hst := I.own.stored (k * 10 + 3) (.int .i64 x)
  have hgr : wr.grownBy (wr.setCell ⟨g, k * 10 + 3, none⟩ (.int .i64 x)) (Value.slice (some ⟨g, 0, none⟩) M.length c).ownBlock := hst.2
  have nm : ∀ j, Held w.heap.size wr j → ∀ b, j.blk b → (Value.slice (some ⟨g, 0, none⟩) M.length c).ownBlock ≠ some b := by
    intro j hj b hb e
    rcases hb with hb | hb
    · exact own_types I.own hj.ko neNI e hb
    · exact own_types I.own hj.to neNI e hb
  have hi := I.held i (List.mem_of_getElem? h)
  refine ⟨by rw [List.length_set, irow_set M k i x h]; exact hst.1, I.pl.kept hgr ?_, ?_, sep_set h (fun b => Iff.rfl) I.sep, ?_, grown_own I.bel I.own hgr⟩
  · cases hk : v2.ownBlock with
    | none => exact Or.inl rfl
    | some b => exact Or.inr (fun e => own_types I.own I.pl neNI e.symm hk)
  · intro j hj
    rcases mem_set h hj with hj | rfl
    · exact (I.held j hj).grown hgr (nm j (I.held j hj))
    · have h2 := hi.grown hgr (nm i hi)
      exact ⟨h2.bare, h2.nz, h2.ko, h2.to, h2.ap⟩
  · intro j hj b hb
    rcases mem_set h hj with hj | rfl
    · exact I.plk j hj b hb
    · exact I.plk i (List.mem_of_getElem? h) b hb
theorem DecI.putTs {w wr : World} {M : List In} {v v2 : Value} {P : List Int} {k j gt : Nat} {i : In} (x : Int) (I : DecI w wr M v P v2) (h : M[k]? = some i) (hA : i.tA = some ⟨gt, 0, none⟩) :
    DecI w (wr.setCell ⟨gt, j, none⟩ (.int .i64 x)) (M.set k (i.setTs j x)) v P v2 := by
  have hi := I.held i (List.mem_of_getElem? h)
  have hto := hi.to
  unfold In.tv at hto
  rw [hA] at hto
  have hst := hto.stored j (.int .i64 x)
  have hbt : i.tv.ownBlock = some gt := by unfold In.tv; rw [hA]; rfl
  have hgr : wr.grownBy (wr.setCell ⟨gt, j, none⟩ (.int .i64 x)) (some gt) := hst.2
  have hrs : Ri (i.ts.set j x) = (Ri i.ts).set j (.int .i64 x) := by unfold Ri; rw [List.map_set]
  have hv : v.ownBlock = none ∨ v.ownBlock ≠ some gt := by
    cases hk : v.ownBlock with
    | none => exact Or.inl rfl
    | some b =>
      refine Or.inr (fun e => ?_)
      have e := Option.some.inj e
      subst e
      exact own_types I.own hi.to neNI hk hbt
  have hv2 : v2.ownBlock = none ∨ v2.ownBlock ≠ some gt := by
    cases hk : v2.ownBlock with
    | none => exact Or.inl rfl
    | some b =>
      refine Or.inr (fun e => ?_)
      have e := Option.some.inj e
      subst e
      exact I.plk i (List.mem_of_getElem? h) b (Or.inr hbt) hk
  refine ⟨by rw [List.length_set, irow_setTs M k i j x h]; exact I.own.kept hgr hv, I.pl.kept hgr hv2, ?_, sep_set h (fun b => Iff.rfl) I.sep, ?_, ?_⟩
  · intro q hq
    obtain ⟨r, hr, he⟩ := List.getElem_of_mem hq
    rw [List.length_set] at hr
    rw [List.getElem_set] at he
    split at he
    · subst he
      refine ⟨hi.bare, hi.nz, hi.ko.kept hgr ?_, ?_, hi.ap⟩
      · rcases hi.ap with h0 | h0
        · exact Or.inl h0
        · exact Or.inr (fun e => h0 (e.trans hbt.symm))
      · show (wr.setCell ⟨gt, j, none⟩ (.int .i64 x)).ownsRow w.heap.size 3 1 i.tv i.tn (Ri (i.ts.set j x))
        rw [hrs]
        unfold In.tv
        rw [hA]
        exact hst.1
    · rename_i hne
      subst he
      exact (I.held _ (List.getElem_mem hr)).grown hgr (fun b hb e => by
        have e := Option.some.inj e
        subst e
        exact sep_ne I.sep h (List.getElem?_eq_getElem hr) (fun e => hne e.symm) gt (Or.inr hbt) hb)
  · intro q hq b hb
    rcases mem_set h hq with hq | rfl
    · exact I.plk q hq b hb
    · exact I.plk i (List.mem_of_getElem? h) b hb
  · exact below_st I.bel (p := ⟨gt, j, none⟩) (hi.to.lt gt hbt).1 _

end Go.Proofs.Ytpghkdmljanncaa

/- InDs -/
/- Layer 8: what decoding answers. -/
namespace Go.Proofs.Ytpghkdmljanncaa
open Go.ChangeShapes Go.WideShapes Go.ChangeAt Go.RowKit Go.PlainAid
set_option linter.unusedSimpArgs false
set_option linter.unusedVariables false

def Co.inn (c : Co) : In := ⟨c.op, c.a, c.b, c.t, none, c.ks.length, 0, c.ks, none, c.ts.length, 0, c.ts, ⟨#[]⟩, ⟨#[]⟩, ⟨#[]⟩, ⟨#[]⟩⟩
theorem ci_core {i : In} (hb : i.bare) (hk : i.ks.length = i.kn) (ht : i.ts.length = i.tn) : ciE i = ciE i.core.inn := by
  obtain ⟨op, a, b, t, kA, kn, kc, ks, tA, tn, tc, ts, r1, r2, r3, s⟩ := i
  obtain ⟨h1, h2, h3, h4⟩ := hb
  simp only at h1 h2 h3 h4 hk ht
  subst h1 h2 h3 h4 hk ht
  rfl
/-- targets turned into indices -/
def ixC (P : List Int) (c : Co) : Co := if brB c.op = true then { c with t := whI P c.t, ts := c.ts.map (whI P) } else c
/-- each target is a place -/
def inC (P : List Int) (c : Co) : Bool := !brB c.op || (decide (c.t ∈ P) && c.ts.all (fun x => decide (x ∈ P)))
def dcL (s : ByteArray) : List Co := ((scA s 0).1.map Prod.snd).map (ixC ((scA s 0).1.map Prod.fst))
def dcE (s : ByteArray) : Int :=
  if 20000 < s.size then 8 else if (scA s 0).2 ≠ 0 then (scA s 0).2 else if 1000 < (scA s 0).1.length then 5
  else if ((scA s 0).1.map Prod.snd).all (inC ((scA s 0).1.map Prod.fst)) = true then chkE ((dcL s).map Co.inn) else 16
def dcV (s : ByteArray) : List Co := if dcE s = 0 then dcL s else []
/-- what Decode hands back -/
def DecRet (w : World) (s : ByteArray) (e : Ending) (w' : World) : Prop :=
  ∃ A n c M, e = .returned (.tuple #[.slice A n c, .int .i64 (dcE s)]) ∧ Ins w' w'.heap.size A M ∧ M.length = n ∧ M.map In.core = dcV s ∧ (∀ i ∈ M, i.bare ∧ i.nz) ∧ Below w.heap.size w w'
theorem dec_no {w w' : World} {s : ByteArray} {x : Int} (h : dcE s = x) (h0 : x ≠ 0) (hb : Below w.heap.size w w') : DecRet w s (.returned (.tuple #[.slice none 0 0, .int .i64 x])) w' :=
  ⟨none, 0, 0, [], by rw [h], Or.inl rfl, rfl, by unfold dcV; rw [h, if_neg h0]; rfl, (fun i hi => by cases hi), hb⟩
theorem dc_1 {s : ByteArray} (h : 20000 < s.size) : dcE s = 8 := if_pos h
theorem dc_2 {s : ByteArray} (h : ¬ 20000 < s.size) (h1 : (scA s 0).2 ≠ 0) : dcE s = (scA s 0).2 := by unfold dcE; rw [if_neg h, if_pos h1]
theorem dc_3 {s : ByteArray} (h : ¬ 20000 < s.size) (h1 : (scA s 0).2 = 0) (h2 : 1000 < (scA s 0).1.length) : dcE s = 5 := by unfold dcE; rw [if_neg h, if_neg (fun x => x h1), if_pos h2]
theorem dc_4 {s : ByteArray} (h : ¬ 20000 < s.size) (h1 : (scA s 0).2 = 0) (h2 : ¬ 1000 < (scA s 0).1.length) (h3 : ((scA s 0).1.map Prod.snd).all (inC ((scA s 0).1.map Prod.fst)) = false) : dcE s = 16 := by
  unfold dcE; rw [if_neg h, if_neg (fun x => x h1), if_neg h2, h3]; rfl
theorem dc_5 {s : ByteArray} (h : ¬ 20000 < s.size) (h1 : (scA s 0).2 = 0) (h2 : ¬ 1000 < (scA s 0).1.length) (h3 : ((scA s 0).1.map Prod.snd).all (inC ((scA s 0).1.map Prod.fst)) = true) : dcE s = chkE ((dcL s).map Co.inn) := by
  unfold dcE; rw [if_neg h, if_neg (fun x => x h1), if_neg h2, if_pos h3]
/-- what has been read, and what is left -/
structure Scd (s : ByteArray) (p : Int) (M : List In) (P : List Int) : Prop where
  len : P.length = M.length
  l : (scA s 0).1 = P.zip (M.map In.core) ++ (scA s p).1
  e : (scA s 0).2 = (scA s p).2
theorem Scd.start (s : ByteArray) : Scd s 0 [] [] := ⟨rfl, rfl, rfl⟩
theorem Scd.next {s : ByteArray} {p : Int} {M : List In} {P : List Int} {i : In} (h : Scd s p M P) (h0 : 0 ≤ p) (h1 : p < s.size) (hk : ¬ kindV (bt s p.toNat) < 0) (hn : ¬ ndV s p (bt s p.toNat) < 0) (hi : i.core = tkC s p (bt s p.toNat)) :
    Scd s (p + ndV s p (bt s p.toNat)) (M ++ [i]) (P ++ [p]) := by
  have g := scA_go h0 h1 hk hn
  refine ⟨by rw [List.length_append, List.length_append, h.len]; rfl, ?_, by rw [h.e, g]⟩
  rw [h.l, g, List.map_append, List.zip_append (by rw [List.length_map]; exact h.len), List.map_cons, List.map_nil, hi, List.append_assoc]
  rfl
theorem Scd.end {s : ByteArray} {p : Int} {M : List In} {P : List Int} (h : Scd s p M P) (h1 : (s.size : Int) ≤ p) : (scA s 0).2 = 0 ∧ (scA s 0).1.map Prod.fst = P ∧ (scA s 0).1.map Prod.snd = M.map In.core ∧ (scA s 0).1.length = M.length := by
  have g := scA_end h1
  have hl : (scA s 0).1 = P.zip (M.map In.core) := by rw [h.l, g, List.append_nil]
  refine ⟨by rw [h.e, g], ?_, ?_, ?_⟩
  · rw [hl, List.map_fst_zip (by rw [List.length_map, h.len]; exact Nat.le_refl _)]
  · rw [hl, List.map_snd_zip (by rw [List.length_map, h.len]; exact Nat.le_refl _)]
  · rw [hl, List.length_zip, List.length_map, h.len, Nat.min_self]

theorem take8_any (s : ByteArray) (p op : Int) (hs : s.size ≤ 1000000) (h0 : 0 ≤ p) (h1 : p ≤ s.size) (hk : 0 ≤ kindV op) (w : World) : Calls Try.prog 67 #[.string s, .int .i64 p, .int .i64 op] w (TkRet w s p op) := by
  rcases kind_bd op with k | k | k | k | k | k | k | k | k
  · omega
  · exact take8_0 s p op hs h0 h1 k w
  · exact take8_1 s p op hs h0 h1 k w
  · exact take8_2 s p op hs h0 h1 k w
  · exact take8_3 s p op hs h0 h1 k w
  · exact take8_4 s p op hs h0 h1 k w
  · exact take8_5 s p op hs h0 h1 k w
  · exact take8_6 s p op hs h0 h1 k w
  · exact take8_7 s p op hs h0 h1 k w

end Go.Proofs.Ytpghkdmljanncaa

/- InDj -/
/- Layer 8: targets turned into indices: what has been turned. -/
namespace Go.Proofs.Ytpghkdmljanncaa
open Go.ChangeShapes Go.WideShapes Go.ChangeAt Go.RowKit Go.PlainAid
set_option linter.unusedSimpArgs false
set_option linter.unusedVariables false

theorem DecI.cell {w wr : World} {M : List In} {g c n : Nat} {P : List Int} {v2 : Value} {k j : Nat} {i : In} {x : Value} (I : DecI w wr M (.slice (some ⟨g, 0, none⟩) n c) P v2) (hn : M.length = n) (h : M[k]? = some i) (hj : j < 10) (hx : (icells i)[j]? = some x) : wr.cell? ⟨g, k * 10 + j, none⟩ = some x := by
  subst hn
  have hk : k < M.length := by
    rcases Nat.lt_or_ge k M.length with h' | h'
    · exact h'
    · rw [List.getElem?_eq_none h'] at h; cases h
  rw [I.own.cellAt _ (by omega), irow_at M k j i hj h, hx]
theorem DecI.thaw {w wr : World} {M : List In} {g c n : Nat} {P : List Int} {v2 : Value} (I : DecI w wr M (.slice (some ⟨g, 0, none⟩) n c) P v2) (hn : M.length = n) (j : Nat) : wr.frozen? ⟨g, j, none⟩ = false := by
  subst hn
  exact I.own.frozenAt j
theorem DecI.addr {w wr : World} {M : List In} {A : Option Addr} {c n : Nat} {P : List Int} {v2 : Value} (I : DecI w wr M (.slice A n c) P v2) (hn : M.length = n) (h0 : 0 < n) : ∃ g, A = some ⟨g, 0, none⟩ ∧ w.heap.size ≤ g ∧ g < wr.heap.size := by
  subst hn
  obtain ⟨g, cap, hv, h1, h2⟩ := I.own.form h0
  injection hv with hA _ _
  exact ⟨g, hA, h1, h2⟩
/-- the first k are turned, the rest as read -/
structure Ixd (P : List Int) (C : List Co) (M : List In) (k : Nat) : Prop where
  len : M.length = C.length
  old : ∀ (r : Nat) (i : In) (c : Co), r < k → M[r]? = some i → C[r]? = some c → i.core = ixC P c ∧ inC P c = true
  new : ∀ (r : Nat) (i : In) (c : Co), k ≤ r → M[r]? = some i → C[r]? = some c → i.core = c
theorem Ixd.start {P : List Int} {M : List In} : Ixd P (M.map In.core) M 0 :=
  ⟨by rw [List.length_map], fun r i c h => absurd h (Nat.not_lt_zero _), fun r i c _ h1 h2 => by
    rw [List.getElem?_map, h1] at h2
    exact Option.some.inj h2⟩
theorem get_some {α : Type} {l : List α} {k : Nat} (h : k < l.length) : ∃ x, l[k]? = some x := ⟨l[k], List.getElem?_eq_getElem _⟩
theorem get_lt {α : Type} {l : List α} {k : Nat} {x : α} (h : l[k]? = some x) : k < l.length := by
  rcases Nat.lt_or_ge k l.length with h' | h'
  · exact h'
  · rw [List.getElem?_eq_none h'] at h; cases h
/-- the next one turned -/
theorem Ixd.step {P : List Int} {C : List Co} {M : List In} {k : Nat} {i i' : In} {c : Co} (h : Ixd P C M k) (hi : M[k]? = some i) (hc : C[k]? = some c) (h1 : i'.core = ixC P c) (h2 : inC P c = true) : Ixd P C (M.set k i') (k + 1) := by
  refine ⟨by rw [List.length_set]; exact h.len, fun r j d hr hj hd => ?_, fun r j d hr hj hd => ?_⟩
  · rw [List.getElem?_set] at hj
    by_cases hk : k = r
    · subst hk
      rw [if_pos rfl, if_pos (get_lt hi)] at hj
      rw [hc] at hd
      rw [← Option.some.inj hj, ← Option.some.inj hd]
      exact ⟨h1, h2⟩
    · rw [if_neg hk] at hj
      exact h.old r j d (by omega) hj hd
  · rw [List.getElem?_set, if_neg (by omega)] at hj
    exact h.new r j d (by omega) hj hd
theorem Ixd.skip {P : List Int} {C : List Co} {M : List In} {k : Nat} {i : In} {c : Co} (h : Ixd P C M k) (hi : M[k]? = some i) (hc : C[k]? = some c) (hb : brB c.op = false) : Ixd P C M (k + 1) := by
  have e := h.new k i c (Nat.le_refl _) hi hc
  refine ⟨h.len, fun r j d hr hj hd => ?_, fun r j d hr hj hd => h.new r j d (by omega) hj hd⟩
  rcases (by omega : r < k ∨ r = k) with hr | rfl
  · exact h.old r j d hr hj hd
  · rw [hi] at hj
    rw [hc] at hd
    rw [← Option.some.inj hj, ← Option.some.inj hd]
    refine ⟨by rw [e]; unfold ixC; rw [hb]; rfl, by unfold inC; rw [hb]; rfl⟩
theorem Ixd.end {P : List Int} {C : List Co} {M : List In} (h : Ixd P C M C.length) : M.map In.core = C.map (ixC P) ∧ C.all (inC P) = true := by
  constructor
  · apply List.ext_getElem?
    intro r
    rw [List.getElem?_map, List.getElem?_map]
    rcases Nat.lt_or_ge r C.length with hr | hr
    · obtain ⟨c, hc⟩ := get_some hr
      obtain ⟨i, hi⟩ := get_some (l := M) (k := r) (by rw [h.len]; exact hr)
      rw [hi, hc]
      exact congrArg some (h.old r i c hr hi hc).1
    · rw [List.getElem?_eq_none hr, List.getElem?_eq_none (by rw [h.len]; exact hr)]; rfl
  · rw [List.all_eq_true]
    intro c hc
    obtain ⟨r, hr, he⟩ := List.getElem_of_mem hc
    have hg : C[r]? = some c := by rw [List.getElem?_eq_getElem hr, he]
    obtain ⟨i, hi⟩ := get_some (l := M) (k := r) (by rw [h.len]; exact hr)
    exact (h.old r i c hr hi hg).2
theorem all_no {P : List Int} {C : List Co} {k : Nat} {c : Co} (hc : C[k]? = some c) (h : inC P c = false) : C.all (inC P) = false := by
  rw [Bool.eq_false_iff]
  intro ha
  have := List.all_eq_true.1 ha c (List.mem_of_getElem? hc)
  rw [h] at this
  cases this
theorem whI_neg {P : List Int} {x : Int} : whI P x < 0 ↔ x ∉ P := by
  unfold whI
  by_cases h : x ∈ P
  · rw [if_pos h]; exact ⟨fun h2 => by omega, fun h2 => absurd h h2⟩
  · rw [if_neg h]; exact ⟨fun _ => h, fun _ => by decide⟩
/-- targets half turned -/
def half (P : List Int) (l : List Int) (j : Nat) : List Int := (l.take j).map (whI P) ++ l.drop j
theorem half_zero (P l : List Int) : half P l 0 = l := by simp [half]
theorem half_all (P l : List Int) : half P l l.length = l.map (whI P) := by simp [half]
theorem half_len (P l : List Int) (j : Nat) : (half P l j).length = l.length := by
  unfold half
  rw [List.length_append, List.length_map, List.length_take, List.length_drop]
  omega
theorem half_at {P l : List Int} {j : Nat} {x : Int} (h : l[j]? = some x) : (half P l j)[j]? = some x := by
  have hj := get_lt h
  unfold half
  rw [List.getElem?_append_right (by rw [List.length_map, List.length_take]; omega), List.length_map, List.length_take, Nat.min_eq_left (by omega), Nat.sub_self, List.getElem?_drop, Nat.add_zero]
  exact h
theorem half_set {P l : List Int} {j : Nat} {x : Int} (h : l[j]? = some x) : (half P l j).set j (whI P x) = half P l (j + 1) := by
  have hj := get_lt h
  unfold half
  have hl : ((l.take j).map (whI P)).length = j := by rw [List.length_map, List.length_take]; omega
  rw [List.set_append_right _ _ (by omega), hl, Nat.sub_self, List.take_add_one, h, List.map_append, List.append_assoc]
  congr 1
  have hd : l.drop j = x :: l.drop (j + 1) := by
    rw [List.drop_eq_getElem_cons hj]
    congr 1
    rw [List.getElem?_eq_getElem hj] at h
    exact Option.some.inj h
  rw [hd]
  rfl

end Go.Proofs.Ytpghkdmljanncaa

/- InDr -/
/- Layer 8: Decode, in the reference: the scan. -/
namespace Go.Proofs.Ytpghkdmljanncaa
open Go.ChangeShapes Go.WideShapes Go.ChangeAt Go.RowKit Go.PlainAid
set_option linter.unusedSimpArgs false
set_option linter.unusedVariables false

theorem wpList_append_lies_ints {w : World} {ops : Array Oper} {rest : List Oper} {o : Oper} {a : Act} {Q : Exit → Act → World → Prop} (hg : o.guard = none) (s x : Operand)
    (hop : o.op = Op.call { callee := Callee.builtin Builtin.append, args := #[s, x], argTypes := #[22, 22] })
    (base n c : Nat) (xs : List Int) (y : Int) (v : Value) (ad : Addr) (hs : a.eval s = v) (hown : w.ownsRow base 3 1 v n (Ri xs)) (hx : a.eval x = .slice (some ad) 1 c)
    (hrow : Row w w.heap.size (some ad) [y]) (hb : n + 1 ≤ 10000000) (hbase : base ≤ w.heap.size)
    (h : ∀ A' c' w', w'.ownsRow base 3 1 (.slice A' (n + 1) c') (n + 1) (Ri (xs ++ [y])) → w.grownBy w' v.ownBlock → Lies w v (.slice A' (n + 1) c') → wpList Try.prog ops Q rest (a.put o.dst (.slice A' (n + 1) c')) w') : wpList Try.prog ops Q (o :: rest) a w := by
  obtain ⟨i0, hi, hz0, hz1, hz2⟩ := info_parts infoI
  refine _root_.Go.wpList_append_lies w hg s x 22 hop base 3 i0 (.int .i64 0) 1 8 Try.underlying22 hi hz0 hz1 hz2 rfl (by decide) v n (Ri xs) hs hown ad 1 c (Ri [y]) hx rfl hrow.news (ri_one [y]) Nat.zero_lt_one (by unfold maxLen; omega) (by omega) hbase w.heap.size rfl ?_
  intro g cap w' h1 h2 h3 h4
  refine h (some ⟨g, 0, none⟩) cap w' (by rw [ri_app]; exact h1) h2 ?_
  rcases h3 with h3 | h3
  · exact Or.inl h3.symm
  · exact Or.inr ⟨g, rfl, by omega⟩
theorem DecI.putT' {w wr : World} {M : List In} {g c n : Nat} {P : List Int} {v2 : Value} {k : Nat} {i : In} (x : Int) (I : DecI w wr M (.slice (some ⟨g, 0, none⟩) n c) P v2) (hn : M.length = n) (h : M[k]? = some i) :
    DecI w (wr.setCell ⟨g, k * 10 + 3, none⟩ (.int .i64 x)) (M.set k (i.setT x)) (.slice (some ⟨g, 0, none⟩) n c) P v2 := by
  subst hn
  exact I.putT x h
theorem set_get {M : List In} {k : Nat} {i i' : In} (h : M[k]? = some i) : (M.set k i')[k]? = some i' := by rw [List.getElem?_set, if_pos rfl, if_pos (get_lt h)]
/-- an instruction whose targets are half turned -/
structure Hlf (P : List Int) (i ij : In) (x : Int) (j : Nat) : Prop where
  tA : ij.tA = i.tA
  tn : ij.tn = i.tn
  tc : ij.tc = i.tc
  core : ij.core = ⟨i.op, i.a, i.b, x, i.ks, half P i.ts j⟩
  seen : ∀ (r : Nat) (y : Int), r < j → i.ts[r]? = some y → y ∈ P
theorem Hlf.start {P : List Int} {i : In} {x : Int} : Hlf P i (i.setT x) x 0 := ⟨rfl, rfl, rfl, by rw [half_zero]; rfl, fun r y h => absurd h (Nat.not_lt_zero _)⟩
theorem Hlf.next {P : List Int} {i ij : In} {x y : Int} {j : Nat} (h : Hlf P i ij x j) (hy : i.ts[j]? = some y) (hp : y ∈ P) : Hlf P i (ij.setTs j (whI P y)) x (j + 1) := by
  have hc := h.core
  unfold In.core at hc
  injection hc with h1 h2 h3 h4 h5 h6
  refine ⟨h.tA, h.tn, h.tc, ?_, fun r z hr hz => ?_⟩
  · show (⟨ij.op, ij.a, ij.b, ij.t, ij.ks, ij.ts.set j (whI P y)⟩ : Co) = _
    rw [h1, h2, h3, h4, h5, h6, half_set hy]
  · rcases (by omega : r < j ∨ r = j) with hr | rfl
    · exact h.seen r z hr hz
    · rw [hy] at hz
      rw [← Option.some.inj hz]; exact hp
theorem Hlf.end {P : List Int} {i ij : In} {x : Int} {j : Nat} {cc : Co} (h : Hlf P i ij x j) (hj : j = i.ts.length) (hc : i.core = cc) (hb : brB i.op = true) (hx : x = whI P i.t) (ht : i.t ∈ P) : ij.core = ixC P cc ∧ inC P cc = true := by
  subst hc hj hx
  constructor
  · rw [h.core, half_all]
    unfold ixC
    rw [if_pos (show brB (In.core i).op = true from hb)]
    rfl
  · unfold inC
    rw [show (In.core i).op = i.op from rfl, hb, show (In.core i).t = i.t from rfl, decide_eq_true ht]
    show (!true || (true && (i.ts.all fun x => decide (x ∈ P)))) = true
    rw [List.all_eq_true.2 (fun y hy => by
      obtain ⟨r, hr, he⟩ := List.getElem_of_mem hy
      exact decide_eq_true (h.seen r y hr (by rw [List.getElem?_eq_getElem hr, he])))]
    rfl
theorem in_no {P : List Int} {i : In} {cc : Co} {j : Nat} {y : Int} (hc : i.core = cc) (hb : brB i.op = true) (hy : i.ts[j]? = some y) (hn : y ∉ P) : inC P cc = false := by
  subst hc
  unfold inC
  rw [show (In.core i).op = i.op from rfl, hb]
  have : ((In.core i).ts.all fun x => decide (x ∈ P)) = false := by
    rw [Bool.eq_false_iff]
    intro h
    have := List.all_eq_true.1 h y (List.mem_of_getElem? hy)
    exact hn (of_decide_eq_true this)
  rw [this]
  simp
theorem kind_neg {o : Int} (h0 : 0 ≤ o) : kindV o < 0 ↔ 81 ≤ o := by
  unfold kindV
  repeat' split
  all_goals first | omega | (constructor <;> intro h <;> omega)
/-- what is shown once for all orders -/
theorem cutP {P G : Prop} (h : RowKit.Hid P → G) (hp : P) : G := h (Lib.hid hp)
theorem chkE_map {f : In → In} : ∀ {L : List In}, (∀ i ∈ L, ciE (f i) = ciE i) → chkE (L.map f) = chkE L
  | [], _ => rfl
  | i :: r, h => by
    have ih := chkE_map (L := r) (fun j hj => h j (List.mem_cons_of_mem _ hj))
    rw [List.map_cons]
    unfold chkE
    rw [h i List.mem_cons_self, ih]
/-- all targets turned: what Decode answers is what the checks say -/
structure Turn (s : ByteArray) (M : List In) : Prop where
  l : M.map In.core = dcL s
  e : dcE s = chkE M
theorem turned {s : ByteArray} {w wr : World} {M M' : List In} {P : List Int} {v v2 : Value} (h : ¬ 20000 < s.size) (hE : (scA s 0).2 = 0 ∧ (scA s 0).1.map Prod.fst = P ∧ (scA s 0).1.map Prod.snd = M.map In.core ∧ (scA s 0).1.length = M.length) (hn : ¬ 1000 < M.length)
    (hx : Ixd P (M.map In.core) M' M.length) (I : DecI w wr M' v P v2) : Turn s M' := by
  have hx2 : Ixd P (M.map In.core) M' (M.map In.core).length := by rw [List.length_map]; exact hx
  obtain ⟨h1, h2⟩ := hx2.end
  have hl : M'.map In.core = dcL s := by unfold dcL; rw [hE.2.1, hE.2.2.1]; exact h1
  refine ⟨hl, ?_⟩
  rw [dc_5 h hE.1 (by rw [hE.2.2.2]; exact hn) (by rw [hE.2.1, hE.2.2.1]; exact h2), ← hl, List.map_map]
  exact chkE_map fun i hi => by
    have hh := I.held i hi
    have ok := hh.ok
    exact (ci_core hh.bare ok.1 ok.2.2.2.2.1).symm
theorem dec_yes {s : ByteArray} {w wr w1 : World} {M : List In} {P : List Int} {A : Option Addr} {n c : Nat} {v2 : Value} (I : DecI w wr M (.slice A n c) P v2) (hm : M.length = n) (ht : Turn s M) (hc : chkE M = 0) (hb : Below wr.heap.size wr w1) : DecRet w s (.returned (.tuple #[.slice A n c, .int .i64 0])) w1 := by
  have I1 := I.below hb
  have he : dcE s = 0 := ht.e.trans hc
  exact ⟨A, n, c, M, by rw [he], I1.ins.1, hm, by unfold dcV; rw [if_pos he]; exact ht.l, fun i hi => ⟨(I.held i hi).bare, (I.held i hi).nz⟩, I1.bel⟩
set_option maxRecDepth 100000 in
set_option maxHeartbeats 4000000 in
theorem rdec8_any (s : ByteArray) (hs : s.size ≤ 1000000) (w : World) : Calls Try.prog 28 #[.string s] w (DecRet w s) := by
  by_cases hbig : 20000 < s.size
  · have HX := Lib.hid (dc_1 hbig)
    go_enter Try.func28, Try.ntmps28
    go_wp2
    go_ret2
    exact dec_no HX.out (by decide) (Below.refl _ _)
  · have HBIG := Lib.hid hbig
    have hsz : s.size ≤ 20000 := by omega
    have hgb := get_bt s
    clear hbig
    go_enter Try.func28, Try.ntmps28
    go_wp2
    go_loopw [4, 5, 6] (fun l pl x wr => ∃ (q : Nat) (M : List In) (P : List Int), x = .int .i64 q ∧ q ≤ s.size ∧ M.length ≤ q ∧ DecI w wr M l P pl ∧ Scd s q M P) (fun _ _ x _ => s.size - (intOf x).toNat)
    case atStart => exact ⟨0, [], [], rfl, Nat.zero_le _, Nat.zero_le _, DecI.start, Scd.start s⟩
    case round =>
      obtain ⟨q, M, P, rfl, hq, hM, I, hsc⟩ := hrel
      obtain ⟨A, c, rfl, _, _, _⟩ := own_form I.own
      obtain ⟨A2, c2, rfl, _, _, _⟩ := own_form I.pl
      have HI := Lib.hid I
      have HSC := Lib.hid hsc
      have hbz := I.bel.size
      clear I hsc
      by_cases hlt : q < s.size
      · have hk0 : (0 : Int) ≤ (q : Int) := by omega
        have hk1 : (q : Int) < (s.size : Int) := by omega
        have ho0 := bt_nonneg s q
        have ho1 := bt_le s q
        obtain ⟨o, hoo⟩ : ∃ o, bt s q = o := ⟨_, rfl⟩
        rw [hoo] at ho0 ho1
        have HOO := Lib.hid (show bt s (q : Int).toNat = o by rw [Int.toNat_natCast]; exact hoo)
        have HKN := Lib.hid (kind_neg ho0)
        by_cases h81 : 81 ≤ o
        · have HX := Lib.hid (show dcE s = 15 by
            have h1 : (scA s 0).2 = 15 := by rw [HSC.out.e, scA_op hk1 (by rw [HOO.out]; exact HKN.out.2 h81)]
            rw [dc_2 HBIG.out (by rw [h1]; decide), h1])
          go_wp2
          go_ret2
          exact dec_no HX.out (by decide) HI.out.bel
        · have HKD := Lib.hid (show ¬ kindV o < 0 from fun h => h81 (HKN.out.1 h))
          obtain ⟨nd, hnd⟩ : ∃ nd, ndV s q o = nd := ⟨_, rfl⟩
          have HND := Lib.hid hnd
          have HNE := Lib.hid (fun w => need_any s q o hs hk0 (by omega) (by have := HKD.out; omega) w)
          rw [hnd] at HNE
          clear hnd
          by_cases hneg : nd < 0
          · have HX := Lib.hid (show dcE s = 3 by
              have h1 : (scA s 0).2 = 3 := by rw [HSC.out.e, scA_cut hk1 (by rw [HOO.out]; exact HKD.out) (by rw [HOO.out, HND.out]; exact hneg)]
              rw [dc_2 HBIG.out (by rw [h1]; decide), h1])
            go_wp2_with (go_at_call 66; refine (HNE.out _).mono ?_; rintro e w' ⟨rfl, rfl⟩)
            go_ret2
            exact dec_no HX.out (by decide) HI.out.bel
          · have hpos := ndV_pos (s := s) (p := q) (op := o) (by have := HKD.out; omega) (by rw [HND.out]; exact hneg)
            rw [HND.out] at hpos
            obtain ⟨m, rfl⟩ : ∃ m : Nat, nd = (m : Int) := ⟨nd.toNat, by omega⟩
            have HTK := Lib.hid (fun w => take8_any s q o hs hk0 (by omega) (by have := HKD.out; omega) w)
            have hw1 : IntKind.i64.wrap ((q : Int) + (m : Int)) = (q : Int) + (m : Int) := by simp [IntKind.wrap, IntKind.bits, IntKind.signed]; omega
            have HLOW := Lib.hid (fun i hi b hb => (HI.out.held i hi).low b hb)
            have HPLW := Lib.hid (fun b hb => (HI.out.pl.lt b hb).2)
            go_upto_region 13 with (go_at_call 66; refine (HNE.out _).mono ?_; rintro e w' ⟨rfl, rfl⟩)
            go_upto_region 14 with (first | (go_at_call 67; refine (HTK.out _).mono ?_; rintro e w1 ⟨i, rfl, hcore, hfr, hb1⟩; have I1 := HI.out.below hb1) | (at_builtin; refine wpList_append_inst (by rfl) _ _ (by rfl) w.heap.size M.length w1.heap.size M i _ (by rfl) (I1.own.alloc _) (by rfl) (cells_at (World.alloc_heap_new _ _)) (by omega) (by have := I1.bel.size; simp; omega) ?_; intro v' w2 ho hg))
            have I2 := DecI.add (wr := wr) (I1.below (below_al (Below.refl _ _) _)) ((hfr.held HI.out.bel.size).below (below_al (Below.refl _ _) _)) hfr.high HLOW.out HPLW.out ho hg
            have hs2 : Scd s ((q + m : Nat) : Int) (M ++ [i]) (P ++ [(q : Int)]) := by
              have h := HSC.out.next (i := i) hk0 hk1 (by rw [HOO.out]; have := HKD.out; omega) (by rw [HOO.out, HND.out]; omega) (by rw [HOO.out]; exact hcore)
              rw [HOO.out, HND.out] at h
              rw [Int.natCast_add]
              exact h
            have HS2 := Lib.hid hs2
            have HI2 := Lib.hid I2
            obtain ⟨A5, c5, rfl, _, _, _⟩ := own_form ho
            have hl2 : (M ++ [i]).length = M.length + 1 := by rw [List.length_append]; rfl
            have hpl : P.length ≤ 30000 := by have := HSC.out.len; omega
            clear I1 I2 hfr hcore ho hg hb1 hs2 hoo
            go_wp2_with (at_builtin; refine wpList_append_lies_ints (by rfl) _ _ (by rfl) w.heap.size P.length 1 P q _ _ (by rfl) (HI2.out.pl.alloc _) (by rfl) (Row.one (ten_cell0 (new_at rfl)) (by simp)) (by omega) (by have := HI2.out.bel.size; simp; omega) ?_; intro A6 c6 w4 ho4 hg4 hl4)
            have I4 := DecI.place (HI2.out.below (below_al (Below.refl _ _) _)) ho4 hg4 hl4
            go_roundw
            case rel => exact ⟨q + m, M ++ [i], P ++ [(q : Int)], by go_num, by omega, by omega, I4, HS2.out⟩
            case measure => simp [intOf]; omega
      · obtain ⟨rfl⟩ : q = s.size := by omega
        have hE := HSC.out.end (Int.le_refl _)
        have HE := Lib.hid hE
        clear hE
        by_cases h1000 : 1000 < M.length
        · have HX := Lib.hid (dc_3 HBIG.out HE.out.1 (by rw [HE.out.2.2.2]; exact h1000))
          go_wp2
          go_ret2
          exact dec_no HX.out (by decide) HI.out.bel
        · have H1K := Lib.hid h1000
          obtain ⟨n, hn⟩ : ∃ n, M.length = n := ⟨_, rfl⟩
          have HMN := Lib.hid hn
          rw [hn] at HI hM h1000 ⊢
          have hnb : n ≤ 1000 := by omega
          clear hn hM h1000
          obtain ⟨m2, hm2⟩ : ∃ m2, P.length = m2 := ⟨_, rfl⟩
          have HPM := Lib.hid hm2
          have hm2b : m2 ≤ 1000000 := by have := HSC.out.len; have := HMN.out; omega
          rw [hm2] at HI ⊢
          clear hm2
          go_wp2
          go_loopw [9] (fun x wr => ∃ (k : Nat) (M' : List In), k ≤ n ∧ x = .int .i64 k ∧ DecI w wr M' (.slice A n c) P (.slice A2 m2 c2) ∧ Ixd P (M.map In.core) M' k) (fun x _ => n - (intOf x).toNat)
          case atStart => exact ⟨0, M, Nat.zero_le _, rfl, HI.out, Ixd.start⟩
          case round =>
            clear HI hbz
            obtain ⟨k, M', hk, rfl, I, hix⟩ := hrel
            have HIX := Lib.hid hix
            have HML := Lib.hid (show M'.length = n by rw [hix.len, List.length_map]; exact HMN.out)
            have HI := Lib.hid I
            clear hix
            by_cases hlt : k < n
            · obtain ⟨g, rfl, hgB, hgw⟩ := I.addr HML.out (by omega)
              obtain ⟨i, hi⟩ := get_some (l := M') (k := k) (by rw [HML.out]; exact hlt)
              obtain ⟨cc, hcc⟩ := get_some (l := M.map In.core) (k := k) (by rw [List.length_map, HMN.out]; exact hlt)
              have a0 := I.cell HML.out hi (j := 0) (by decide) rfl
              rw [Nat.add_zero] at a0
              have a3 := I.cell HML.out hi (j := 3) (by decide) rfl
              have f3 := I.thaw HML.out (k * 10 + 3)
              have hcore := HIX.out.new k i cc (Nat.le_refl _) hi hcc
              have hk0 : (0 : Int) ≤ (k : Int) := by omega
              have hk1 : (k : Int) < (n : Int) := by omega
              have HCO := Lib.hid hcore
              have HII := Lib.hid (And.intro hi hcc)
              have hpl2 := I.pl
              rw [HPM.out] at hpl2
              obtain ⟨hrow, _⟩ := Row.of_own hpl2
              have HRW := Lib.hid hrow
              clear I hcore hi hcc hrow hpl2
              cases hb : brB i.op with
              | false =>
                have HBR := Lib.hid hb
                go_wp2_with (go_at_call 56; refine (rbr_any _ _).mono ?_; rintro e w' ⟨rfl, rfl⟩; rw [HBR.out])
                exact ⟨⟨k + 1, M', hlt, by go_num, HI.out, HIX.out.skip HII.out.1 HII.out.2 (by rw [← HCO.out]; exact HBR.out)⟩, by simp [intOf]; omega⟩
              | true =>
                have HBR := Lib.hid hb
                obtain ⟨x, hx⟩ : ∃ x, whI P i.t = x := ⟨_, rfl⟩
                have HWH := Lib.hid (where_any (c := c2) i.t HRW.out HPM.out hm2b)
                rw [hx] at HWH
                have HX := Lib.hid hx
                clear hx
                go_upto_region 23 with (first | (go_at_call 56; refine (rbr_any _ _).mono ?_; rintro e w' ⟨rfl, rfl⟩; rw [HBR.out]) | (go_at_call 60; refine HWH.out.mono ?_; rintro e w' ⟨rfl, rfl⟩))
                have I5 := HI.out.putT' x HML.out HII.out.1
                have HI5 := Lib.hid I5
                generalize wr.setCell ⟨g, k * 10 + 3, none⟩ (.int .i64 x) = W5 at I5 HI5 ⊢
                have hg5 := set_get (i' := i.setT x) HII.out.1
                have hl5 : (M'.set k (i.setT x)).length = n := by rw [List.length_set]; exact HML.out
                have e3 : W5.cell? ⟨g, k * 10 + 3, none⟩ = some (.int .i64 x) := I5.cell hl5 hg5 (j := 3) (by decide) rfl
                have HG5 := Lib.hid hg5
                have HL5 := Lib.hid hl5
                clear a0 a3 f3 I5 hg5 hl5 HWH
                by_cases hxn : x < 0
                · have hnot : inC P cc = false := by
                    have hm : i.t ∉ P := whI_neg.1 (by rw [HX.out]; exact hxn)
                    rw [← HCO.out]
                    unfold inC
                    rw [show (In.core i).op = i.op from rfl, HBR.out, show (In.core i).t = i.t from rfl, decide_eq_false hm]
                    rfl
                  have HX4 := Lib.hid (dc_4 HBIG.out HE.out.1 (by rw [HE.out.2.2.2, HMN.out]; omega) (by rw [HE.out.2.2.1, HE.out.2.1]; exact all_no HII.out.2 hnot))
                  clear hnot
                  go_wp2
                  go_ret2
                  exact dec_no HX4.out (by decide) HI5.out.bel
                · have e5 := HI5.out.cell HL5.out HG5.out (j := 5) (by decide) rfl
                  have hip : i.t ∈ P := Classical.byContradiction fun h => hxn (by rw [← HX.out]; exact whI_neg.2 h)
                  have HIP := Lib.hid hip
                  clear hip e5
                  go_wp2
                  go_loopw [10] (fun z wr => ∃ (j : Nat) (ij : In), j ≤ i.tn ∧ z = .int .i64 j ∧ DecI w wr (M'.set k ij) (.slice (some ⟨g, 0, none⟩) n c) P (.slice A2 m2 c2) ∧ Hlf P i ij x j) (fun z _ => i.tn - (intOf z).toNat)
                  case atStart => exact ⟨0, i.setT x, Nat.zero_le _, rfl, HI5.out, Hlf.start⟩
                  case round =>
                    obtain ⟨j, ij, hj, rfl, Ij, hh⟩ := hrel
                    have hgj := set_get (i' := ij) HII.out.1
                    have hlj : (M'.set k ij).length = n := by rw [List.length_set]; exact HML.out
                    have e5 := Ij.cell hlj hgj (j := 5) (by decide) rfl
                    rw [hh.tA, hh.tn, hh.tc] at e5
                    have HIJ := Lib.hid Ij
                    have HH := Lib.hid hh
                    have HGJ := Lib.hid hgj
                    have HLJ := Lib.hid hlj
                    have hheld := Ij.held ij (List.mem_of_getElem? hgj)
                    have htl : i.ts.length = i.tn := by
                      have h1 := hheld.ok.2.2.2.2.1
                      have h2 : ij.ts = half P i.ts j := by have := hh.core; unfold In.core at this; injection this
                      rw [h2, half_len, hh.tn] at h1
                      exact h1
                    have HTL := Lib.hid htl
                    have HHD := Lib.hid hheld
                    clear Ij hh hgj hlj hheld htl
                    by_cases hjt : j < i.tn
                    · have hto := HHD.out.to
                      have htv : ij.tv = .slice i.tA i.tn i.tc := by unfold In.tv; rw [HH.out.tA, HH.out.tn, HH.out.tc]
                      rw [htv, HH.out.tn] at hto
                      obtain ⟨gt, cap, hv, hgB2, hgl⟩ := hto.form (by omega)
                      injection hv with hA _ hcap
                      obtain ⟨y, hy⟩ := get_some (l := i.ts) (k := j) (by rw [HTL.out]; exact hjt)
                      have hcy := hto
                      rw [hA] at hcy e5
                      have f5 := hcy.frozenAt j
                      have hcy2 := hcy.cellAt j (by omega)
                      have hts : ij.ts = half P i.ts j := by have := HH.out.core; unfold In.core at this; injection this
                      rw [hts, show (Ri (half P i.ts j))[j]? = some (.int .i64 y) by unfold Ri; rw [List.getElem?_map, half_at hy]; rfl] at hcy2
                      have hj0 : (0 : Int) ≤ (j : Int) := by omega
                      have hj1 : (j : Int) < (i.tn : Int) := by omega
                      have hjl : (i.tn : Int) ≤ 9223372036854775807 := by
                        obtain ⟨_, _, _, z1, z2, _⟩ := own_form hcy
                        unfold maxLen at z2
                        omega
                      obtain ⟨u, hu⟩ : ∃ u, whI P y = u := ⟨_, rfl⟩
                      have hpl2 := HIJ.out.pl
                      rw [HPM.out] at hpl2
                      have HWY := Lib.hid (fun q => where_any (w := wr.drewN q) (c := c2) y (Row.of_own (own_drewN hpl2 q)).1 HPM.out hm2b)
                      rw [hu] at HWY
                      have HUY := Lib.hid (And.intro hu hy)
                      have HIA := Lib.hid (And.intro HH.out.tA hA)
                      clear hto htv hcap hy hcy hts hu hpl2 hA
                      go_wp2
                      apply cutP
                      case h =>
                        intro KEY
                        go_region_law (first | (go_simp; go_at_call 60; first | (refine (HWY.out 1).mono ?_; rintro e w' ⟨rfl, rfl⟩) | (refine (HWY.out 2).mono ?_; rintro e w' ⟨rfl, rfl⟩)))
                        all_goals exact KEY.out
                      case hp =>
                        have I6 := (HIJ.out.below (below_dr (Below.refl _ _) 1)).putTs (j := j) u HGJ.out (HIA.out.1.trans HIA.out.2)
                        rw [List.set_set] at I6
                        have hg6 := set_get (i' := ij.setTs j u) HII.out.1
                        have hl6 : (M'.set k (ij.setTs j u)).length = n := by rw [List.length_set]; exact HML.out
                        have hnx := HH.out.next HUY.out.2
                        rw [HUY.out.1] at hnx
                        have HNX := Lib.hid hnx
                        clear hnx e5 f5 hcy2 HIJ HWY
                        generalize (wr.drewN 1).setCell ⟨gt, j, none⟩ (.int .i64 u) = W6 at I6 ⊢
                        have e6 : W6.cell? ⟨g, k * 10 + 5, none⟩ = some (.slice ij.tA ij.tn ij.tc) := I6.cell hl6 hg6 (j := 5) (by decide) rfl
                        rw [HIA.out.1, HIA.out.2, HH.out.tn, HH.out.tc] at e6
                        have HI6 := Lib.hid I6
                        have h6 := (I6.held _ (List.mem_of_getElem? hg6)).to
                        have htv6 : (ij.setTs j u).tv = .slice (some ⟨gt, 0, none⟩) i.tn i.tc := by unfold In.tv; rw [show (ij.setTs j u).tA = ij.tA from rfl, show (ij.setTs j u).tn = ij.tn from rfl, show (ij.setTs j u).tc = ij.tc from rfl, HIA.out.1, HIA.out.2, HH.out.tn, HH.out.tc]
                        rw [htv6, show (ij.setTs j u).tn = ij.tn from rfl, HH.out.tn] at h6
                        have c6 := h6.cellAt j (by omega)
                        have hts6 : ij.ts = half P i.ts j := by have := HH.out.core; unfold In.core at this; injection this
                        rw [show (Ri (ij.setTs j u).ts)[j]? = some (.int .i64 u) by
                          unfold Ri
                          rw [List.getElem?_map, show (ij.setTs j u).ts = ij.ts.set j u from rfl, List.getElem?_set_self (by rw [hts6, half_len, HTL.out]; exact hjt)]
                          rfl] at c6
                        clear I6 hg6 hl6 h6 htv6 hts6
                        by_cases hun : u < 0
                        · have HX4 := Lib.hid (dc_4 HBIG.out HE.out.1 (by rw [HE.out.2.2.2, HMN.out]; omega) (by rw [HE.out.2.2.1, HE.out.2.1]; exact all_no HII.out.2 (in_no HCO.out HBR.out HUY.out.2 (whI_neg.1 (by rw [HUY.out.1]; exact hun)))))
                          go_wp2
                          go_ret2
                          exact dec_no HX4.out (by decide) HI6.out.bel
                        · have hyp : y ∈ P := Classical.byContradiction fun h => hun (by rw [← HUY.out.1]; exact whI_neg.2 h)
                          have HN2 := Lib.hid (HNX.out hyp)
                          clear hyp HNX
                          go_wp2
                          exact ⟨⟨j + 1, ij.setTs j u, hjt, by go_num, HI6.out, HN2.out⟩, by simp [intOf]; omega⟩
                    · obtain ⟨rfl⟩ : j = i.tn := by omega
                      have HEN := Lib.hid (HH.out.end HTL.out.symm HCO.out HBR.out HX.out.symm HIP.out)
                      go_wp2
                      exact ⟨⟨k + 1, M'.set k ij, hlt, by go_num, HIJ.out, HIX.out.step HII.out.1 HII.out.2 HEN.out.1 HEN.out.2⟩, by simp [intOf]; omega⟩
            · obtain ⟨rfl⟩ : n = k := by omega
              have HT := Lib.hid (turned HBIG.out HE.out (by rw [HMN.out]; omega) (by rw [HMN.out]; exact HIX.out) HI.out)
              have HP := Lib.hid HI.out.ins.1
              clear HIX HPM hm2b
              go_wp2
              go_loopw [11] (fun x wx => ∃ k : Nat, k ≤ n ∧ x = .int .i64 k ∧ (∀ (j : Nat) (i : In), j < k → M'[j]? = some i → ciE i = 0) ∧ Below wr.heap.size wr wx) (fun x _ => n - (intOf x).toNat)
              case atStart => exact ⟨0, Nat.zero_le _, rfl, fun j i hj => absurd hj (Nat.not_lt_zero _), Below.refl _ _⟩
              case round =>
                obtain ⟨k, hk, rfl, hok, hBr⟩ := hrel
                have HOK := Lib.hid hok
                clear hok
                by_cases hlt : k < n
                · obtain ⟨i, hp⟩ := get_some (l := M') (k := k) (by rw [HML.out]; exact hlt)
                  have HPW := Lib.hid (HP.out.up hBr)
                  rcases HPW.out with h0 | ⟨g, o, rfl, hg, hcell⟩
                  · rw [h0] at hp; simp at hp
                  · obtain ⟨iok, a0, a1, a2, a3, a4, a5, a6, a7, a8, a9⟩ := hcell k _ hp
                    have IOK := Lib.hid iok
                    have HPK := Lib.hid hp
                    clear hcell iok hp
                    have hk0 : (0 : Int) ≤ (k : Int) := by omega
                    have hk1 : (k : Int) < (n : Int) := by omega
                    by_cases hc : ciE i = 0
                    · have HC := Lib.hid hc
                      have hne : (ciE i != 0) = false := by rw [hc]; rfl
                      clear hc
                      go_wp2_with (go_at_call 17; refine (rchk_any i _ (IOK.out.up (by first | exact Below.refl _ _ | exact below_al (Below.refl _ _) _))).mono ?_; rintro e w1 ⟨rfl, hb1⟩)
                      go_roundw
                      case rel =>
                        refine ⟨k + 1, hlt, by go_num, fun j x hj hx => ?_, below_on hBr hb1⟩
                        rcases (by omega : j < k ∨ j = k) with h | rfl
                        · exact HOK.out j x h hx
                        · rw [HPK.out] at hx
                          injection hx with hx
                          rw [← hx]; exact HC.out
                      case measure => simp [intOf]; omega
                    · have HCE := Lib.hid (HT.out.e.trans (chkE_bad HOK.out HPK.out hc))
                      have HC0 := Lib.hid hc
                      have hne := bneT' hc
                      clear hc
                      go_wp2_with (go_at_call 17; refine (rchk_any i _ (IOK.out.up (by first | exact Below.refl _ _ | exact below_al (Below.refl _ _) _))).mono ?_; rintro e w1 ⟨rfl, hb1⟩)
                      go_ret2
                      exact dec_no HCE.out HC0.out (HI.out.below (below_on hBr hb1)).bel
                · obtain ⟨rfl⟩ : n = k := by omega
                  have HCK := Lib.hid (chkE_ok (L := M') fun j i hj => HOK.out j i (by rw [← HML.out]; exact get_lt hj) hj)
                  go_wp2
                  go_ret2
                  exact dec_yes HI.out HML.out HT.out HCK.out hBr

end Go.Proofs.Ytpghkdmljanncaa

/- InMi -/
/- Layer 8: the middle of a round of scan: an instruction half read. -/
namespace Go.Proofs.Ytpghkdmljanncaa
open Go.ChangeShapes Go.WideShapes Go.ChangeAt Go.RowKit Go.PlainAid
set_option linter.unusedSimpArgs false
set_option linter.unusedVariables false

theorem neRI : 98 ≠ 3 := by decide
theorem neRN : 98 ≠ 26 := by decide
theorem own_notk {w : World} {B e z n k t : Nat} {v : Value} {xs : List Value} {cs : Array Value} {fr : Nat × Nat} (h : w.ownsRow B e z v n xs) (hk : w.heap[k]? = some (.cells cs t fr)) (ht : t ≠ e) : v.ownBlock ≠ some k := by
  intro hv
  rcases h.2 with ⟨rfl, _⟩ | ⟨g, cap, cur, rfl, _, hg, _⟩
  · cases hv
  · have : g = k := Option.some.inj hv
    subst this
    rw [hg] at hk
    have := Option.some.inj hk
    injection this with _ h2 _
    exact ht h2.symm
theorem rdB_iff {s : ByteArray} {p z : Int} (hz : okSize z) (h0 : 0 ≤ p) : rdB s p z = true ↔ p + z ≤ s.size := by
  unfold rdB
  rw [decide_eq_true_iff]
  unfold unsE
  rw [if_neg (by simpa using hz)]
  have hzp : 1 ≤ z := by unfold okSize at hz; omega
  by_cases h1 : p < 0 ∨ (s.size : Int) < p
  · rw [if_pos h1]; constructor <;> intro h <;> omega
  · rw [if_neg h1]
    by_cases h2 : (s.size : Int) - p < z
    · rw [if_pos h2]; constructor <;> intro h <;> omega
    · rw [if_neg h2]; constructor <;> intro h <;> omega
theorem rdB_no {s : ByteArray} {p z : Int} (hz : okSize z) (h0 : 0 ≤ p) (h : ¬ p + z ≤ s.size) : rdB s p z = false := by
  rw [Bool.eq_false_iff]; exact fun e => h ((rdB_iff hz h0).1 e)
theorem uns_no {s : ByteArray} {p z : Int} (hz : okSize z) (h0 : 0 ≤ p) (h : ¬ p + z ≤ s.size) : unsV s p z = 0 := by
  unfold unsV
  rw [if_neg (fun e => h ((rdB_iff hz h0).1 (by unfold rdB; exact decide_eq_true e)))]
/-- the low byte of two -/
theorem low_byte {s : ByteArray} {p : Int} (h0 : 0 ≤ p) (h : p + 2 ≤ s.size) : sgn 1 (unsV s p 2) = sigV s (p + 1) 1 := by
  have e2 : unsE s p 2 = 0 := by have := (rdB_iff (s := s) (p := p) ok2 h0).2 h; unfold rdB at this; exact of_decide_eq_true this
  obtain ⟨n, rfl⟩ : ∃ n : Nat, p = (n : Int) := ⟨p.toNat, by omega⟩
  have h1 := uns1 (s := s) (p := (n : Int) + 1) (by omega) (by omega)
  have b1 := bt_nonneg s n
  have b2 := bt_le s n
  have b3 := bt_nonneg s (n + 1)
  have b4 := bt_le s (n + 1)
  unfold sigV
  rw [h1.1]
  unfold unsV
  rw [if_pos e2, Int.toNat_natCast, show ((n : Int) + 1).toNat = n + 1 by omega]
  show sgn 1 (wrap64 (wrap64 (0 * 256 + fromB s n 0) * 256 + fromB s n 1)) = _
  unfold fromB
  rw [Nat.add_zero, Int.zero_mul, Int.zero_add, wrap64_id (n := bt s n) (by omega), wrap64_id (by omega)]
  unfold sgn
  rw [if_pos rfl, if_pos rfl]
  omega
theorem nd_plain {s : ByteArray} {p op z : Int} (h6 : kindV op ≠ 6) (h7 : kindV op ≠ 7) (hz : sizeV op = z) : ndV s p op = if (s.size : Int) < p + z then -1 else z := by
  unfold ndV
  rw [if_neg (by rintro (h | h); exact h6 (kind6.2 h); exact h7 (kind7.2 h)), hz]
theorem nd_6 {s : ByteArray} {p op : Int} (h : kindV op = 6) : ndV s p op = if (s.size : Int) < p + 9 then -1 else if (s.size : Int) < p + (9 + 2 * unsV s (p + 7) 2) then -1 else 9 + 2 * unsV s (p + 7) 2 := by
  have h53 := kind6.1 h
  unfold ndV
  rw [if_pos (Or.inl h53)]
  have e : hdV op = 9 := by unfold hdV; rw [if_neg (by omega)]
  have e2 : (if op = 54 then (6 : Int) else 2) = 2 := if_neg (by omega)
  rw [e, e2, show p + 9 - 2 = p + 7 by omega]
theorem nd_7 {s : ByteArray} {p op : Int} (h : kindV op = 7) : ndV s p op = if (s.size : Int) < p + 5 then -1 else if (s.size : Int) < p + (5 + 6 * unsV s (p + 3) 2) then -1 else 5 + 6 * unsV s (p + 3) 2 := by
  have h54 := kind7.1 h
  unfold ndV
  rw [if_pos (Or.inr h54)]
  have e : hdV op = 5 := by unfold hdV; rw [if_pos h54]
  have e2 : (if op = 54 then (6 : Int) else 2) = 6 := if_pos h54
  rw [e, e2, show p + 5 - 2 = p + 3 by omega]

/-- a block of another type grows -/
theorem DecI.grown1 {w wr w' : World} {M : List In} {v v2 : Value} {P : List Int} {g : Nat} (I : DecI w wr M v P v2) (hg : wr.grownBy w' (some g)) (h0 : w.heap.size ≤ g) (h1 : v.ownBlock ≠ some g) (h2 : v2.ownBlock ≠ some g) (h3 : ∀ i ∈ M, ∀ b, i.blk b → b ≠ g) : DecI w w' M v P v2 := by
  refine ⟨I.own.kept hg ?_, I.pl.kept hg ?_, fun i hi => (I.held i hi).grown hg (fun b hb e => h3 i hi b hb (Option.some.inj e).symm), I.sep, I.plk, I.bel.trans (grown_below hg (fun k hk => by injection hk with hk; omega) I.bel.size)⟩
  · exact Or.inr h1
  · exact Or.inr h2
/-- an instruction half read: its box, the reader, what has been read -/
structure Mid (w wr : World) (s : ByteArray) (p : Int) (sh : Bool) (B : Nat) (i : In) (M : List In) (v : Value) (P : List Int) (v2 : Value) : Prop where
  I : DecI w wr M v P v2
  rd : Rd wr w.heap.size s p sh
  box : wr.heap[B]? = some (.cells (icells i).toArray 26)
  lo : w.heap.size < B
  vB : v.ownBlock ≠ some B
  hi : Held w.heap.size wr i
  sep : ∀ j ∈ M, ∀ b, j.blk b → ¬ i.blk b
  plk : ∀ b, i.blk b → v2.ownBlock ≠ some b
theorem blk_rd {w : World} {B g b : Nat} {i : In} {s : ByteArray} {p : Int} {sh : Bool} (h : Held B w i) (hr : Rd w g s p sh) (hb : i.blk b) : b ≠ g := by
  rintro rfl
  rcases hb with hb | hb
  · exact own_not h.ko hr neRI hb
  · exact own_not h.to hr neRI hb
theorem blk_box {w : World} {B b g : Nat} {i : In} {cs : Array Value} (h : Held B w i) (hr : w.heap[g]? = some (.cells cs 26)) (hb : i.blk b) : b ≠ g := by
  rintro rfl
  rcases hb with hb | hb
  · exact own_not h.ko hr neNI hb
  · exact own_not h.to hr neNI hb
theorem Mid.read {w wr w' : World} {s : ByteArray} {p p' : Int} {sh sh' : Bool} {B : Nat} {i : In} {M : List In} {v v2 : Value} {P : List Int} (m : Mid w wr s p sh B i M v P v2) (hr : Rd w' w.heap.size s p' sh') (hg : wr.grownBy w' (some w.heap.size)) : Mid w w' s p' sh' B i M v P v2 := by
  have hlo := m.lo
  refine ⟨m.I.grown1 hg (Nat.le_refl _) (own_notk m.I.own m.rd neRN) (own_not m.I.pl m.rd neRI) (fun j hj b hb => blk_rd (m.I.held j hj) m.rd hb), hr, (hg.block B (lt_heap m.box) (fun e => by have := Option.some.inj e; omega)).trans m.box, hlo, m.vB, m.hi.grown hg (fun b hb e => blk_rd m.hi m.rd hb (Option.some.inj e).symm), m.sep, m.plk⟩
/-- a field stored -/
theorem Mid.put {w wr : World} {s : ByteArray} {p : Int} {sh : Bool} {B : Nat} {i i' : In} {M : List In} {v v2 : Value} {P : List Int} (j : Nat) (u : Value) (m : Mid w wr s p sh B i M v P v2) (hc : (icells i).set j u = icells i') (hk : i'.kv = i.kv) (ht : i'.tv = i.tv) (hks : i'.ks = i.ks) (hts : i'.ts = i.ts) (hb : i'.bare) :
    Mid w (wr.setCell ⟨B, j, none⟩ u) s p sh B i' M v P v2 := by
  have hlo := m.lo
  have hbk : ∀ b, i'.blk b ↔ i.blk b := fun b => by unfold In.blk; rw [hk, ht]
  have hg : wr.grownBy (wr.setCell ⟨B, j, none⟩ u) (some B) := grown_set
  have e1 : i'.kn = i.kn := by unfold In.kv at hk; injection hk
  have e2 : i'.tn = i.tn := by unfold In.tv at ht; injection ht
  have hh := m.hi.grown hg (fun b hb e => blk_box m.hi m.box hb (Option.some.inj e).symm)
  refine ⟨m.I.grown1 hg (Nat.le_of_lt hlo) m.vB (own_not m.I.pl m.box neNI) (fun j hj b hb => blk_box (m.I.held j hj) m.box hb), ?_, ?_, hlo, m.vB, ?_, fun j hj b hb h => m.sep j hj b hb ((hbk b).1 h), fun b h => m.plk b ((hbk b).1 h)⟩
  · exact (heap_setCell_other wr ⟨B, j, none⟩ w.heap.size u (by show w.heap.size ≠ B; omega)).trans m.rd
  · have := heap_setCell_same wr B j _ _ u m.box
    rw [this, ← hc]
    rw [List.setIfInBounds_toArray]
  · refine ⟨hb, ?_, by rw [hk, hks, e1]; exact hh.ko, by rw [ht, hts, e2]; exact hh.to, by unfold Apt; rw [hk, ht]; exact hh.ap⟩
    have hz := hh.nz
    unfold In.kv at hk
    unfold In.tv at ht
    injection hk with a1 _ a3
    injection ht with b1 _ b3
    unfold In.nz
    rw [a1, a3, b1, b3]
    exact hz
/-- the reader moved -/
theorem Mid.move {w wr : World} {s : ByteArray} {p p' : Int} {sh : Bool} {B : Nat} {i : In} {M : List In} {v v2 : Value} {P : List Int} (m : Mid w wr s p sh B i M v P v2) : Mid w (wr.setCell ⟨w.heap.size, 1, none⟩ (.int .i64 p')) s p' sh B i M v P v2 :=
  m.read (heap_setCell_same wr w.heap.size 1 _ _ (.int .i64 p') m.rd) grown_set
theorem fresh0 {w : World} {B : Nat} {op : Int} : Held B w (inP op 0 0 0) := ⟨inP_bare _ _ _ _, ⟨fun _ => rfl, fun _ => rfl⟩, World.ownsRow_nil _ _ _ _, World.ownsRow_nil _ _ _ _, Or.inl rfl⟩
theorem Mid.start {w wr : World} {s : ByteArray} {p : Int} {sh : Bool} {M : List In} {v v2 : Value} {P : List Int} {op : Int} (I : DecI w wr M v P v2) (hr : Rd wr w.heap.size s p sh) :
    Mid w (wr.alloc (.cells #[.int .i64 op, .int .i64 0, .int .i64 0, .int .i64 0, .slice none 0 0, .slice none 0 0, .string ⟨#[]⟩, .string ⟨#[]⟩, .string ⟨#[]⟩, .string ⟨#[]⟩] 26)) s p sh wr.heap.size (inP op 0 0 0) M v P v2 := by
  have nb : ∀ b, ¬ (inP op 0 0 0).blk b := fun b h => by rcases h with h | h <;> cases h
  refine ⟨I.below (below_al (Below.refl _ _) _), rd_alloc hr _, new_at rfl, lt_heap hr, fun e => ?_, fresh0, fun j _ b _ h => nb b h, fun b h => absurd h (nb b)⟩
  have := (I.own.lt _ e).2
  omega
theorem dec_nm {w wr : World} {M : List In} {v v2 : Value} {P : List Int} (I : DecI w wr M v P v2) (j : In) (hj : Held w.heap.size wr j) : ∀ b, j.blk b → v.ownBlock ≠ some b := by
  intro b hb e
  rcases hb with hb | hb
  · exact own_types I.own hj.ko neNI e hb
  · exact own_types I.own hj.to neNI e hb
/-- the instruction joins the others -/
theorem Mid.done {w wr W w2 : World} {s : ByteArray} {p : Int} {sh : Bool} {B : Nat} {i : In} {M : List In} {v v' v2 : Value} {P : List Int} (m : Mid w wr s p sh B i M v P v2) (hW : Below wr.heap.size wr W)
    (ho : w2.ownsRow w.heap.size 26 10 v' (M.length + 1) (irow (M ++ [i]))) (hg : W.grownBy w2 v.ownBlock) : DecI w w2 (M ++ [i]) v' P v2 ∧ Rd w2 w.heap.size s p sh := by
  have I := m.I.below hW
  have hi := m.hi.below hW
  have hr : Rd W w.heap.size s p sh := (hW.block _ (lt_heap m.rd)).trans m.rd
  refine ⟨⟨by rw [List.length_append]; exact ho, I.pl.kept hg ?_, ?_, ?_, ?_, grown_own I.bel I.own hg⟩, rd_grown hr hg (fun e => own_notk I.own hr neRN e)⟩
  · cases hk : v2.ownBlock with
    | none => exact Or.inl rfl
    | some b => exact Or.inr (fun e => own_types I.own I.pl neNI e.symm hk)
  · intro j hj
    rcases List.mem_append.1 hj with hj | hj
    · exact (I.held j hj).grown hg (dec_nm I j (I.held j hj))
    · obtain rfl := List.mem_singleton.1 hj
      exact hi.grown hg (dec_nm I j hi)
  · rw [List.pairwise_append]
    refine ⟨I.sep, List.pairwise_singleton _ _, fun a ha j hj b hb hb2 => ?_⟩
    obtain rfl := List.mem_singleton.1 hj
    exact m.sep a ha b hb hb2
  · intro j hj b hb
    rcases List.mem_append.1 hj with hj | hj
    · exact I.plk j hj b hb
    · obtain rfl := List.mem_singleton.1 hj
      exact m.plk b hb
theorem Mid.up {w wr W : World} {s : ByteArray} {p : Int} {sh : Bool} {B : Nat} {i : In} {M : List In} {v v2 : Value} {P : List Int} (m : Mid w wr s p sh B i M v P v2) (hW : Below wr.heap.size wr W) : Mid w W s p sh B i M v P v2 :=
  ⟨m.I.below hW, (hW.block _ (lt_heap m.rd)).trans m.rd, (hW.block _ (lt_heap m.box)).trans m.box, m.lo, m.vB, m.hi.below hW, m.sep, m.plk⟩
theorem Mid.at {w wr : World} {s : ByteArray} {p p' : Int} {sh : Bool} {B : Nat} {i : In} {M : List In} {v v2 : Value} {P : List Int} (m : Mid w wr s p sh B i M v P v2) (h : p = p') : Mid w wr s p' sh B i M v P v2 := by subst h; exact m
/-- an instruction without references -/
def sw (o a b t : Int) (kA : Option Addr) (kn kc : Nat) (ks : List Int) (tA : Option Addr) (tn tc : Nat) (ts : List Int) : In := ⟨o, a, b, t, kA, kn, kc, ks, tA, tn, tc, ts, ⟨#[]⟩, ⟨#[]⟩, ⟨#[]⟩, ⟨#[]⟩⟩
def In.setK (i : In) (A : Option Addr) (n c : Nat) (L : List Int) : In := { i with kA := A, kn := n, kc := c, ks := L }
def In.setZ (i : In) (A : Option Addr) (n c : Nat) (L : List Int) : In := { i with tA := A, tn := n, tc := c, ts := L }
theorem nz_own {w : World} {B e n c : Nat} {A : Option Addr} {xs : List Value} (h : w.ownsRow B e 1 (.slice A n c) n xs) : A = none → c = 0 := by
  obtain ⟨A2, c2, hv, _, _, hh⟩ := own_form h
  injection hv with h1 _ h3
  subst h1 h3
  exact hh
/-- a key more -/
theorem Mid.key {w W w' : World} {s : ByteArray} {p : Int} {sh : Bool} {B : Nat} {i : In} {M : List In} {v v2 : Value} {P : List Int} {A' : Option Addr} {c' : Nat} {x : Int} (m : Mid w W s p sh B i M v P v2)
    (ho : w'.ownsRow w.heap.size 3 1 (.slice A' (i.kn + 1) c') (i.kn + 1) (Ri (i.ks ++ [x]))) (hg : W.grownBy w' i.kv.ownBlock) (hl : Lies W i.kv (.slice A' (i.kn + 1) c')) :
    Mid w (w'.setCell ⟨B, 4, none⟩ (.slice A' (i.kn + 1) c')) s p sh B (i.setK A' (i.kn + 1) c' (i.ks ++ [x])) M v P v2 := by
  have hlo := m.lo
  have hbx := box_keep hg m.box m.hi.ko neNI
  have hrd : Rd w' w.heap.size s p sh := box_keep hg m.rd m.hi.ko neRI
  have hto := m.hi.ap.kept m.hi.to hg
  have nk : ∀ b, i.kv.ownBlock = some b → i.blk b := fun b h => Or.inl h
  have hI : DecI w w' M v P v2 := by
    refine ⟨m.I.own.kept hg ?_, m.I.pl.kept hg ?_, fun j hj => (m.I.held j hj).grown hg (fun b hb e => m.sep j hj b hb (nk b e)), m.I.sep, m.I.plk, grown_own m.I.bel m.hi.ko hg⟩
    · cases hk : v.ownBlock with
      | none => exact Or.inl rfl
      | some b => exact Or.inr (fun e => dec_nm m.I i m.hi b (nk b e.symm) hk)
    · cases hk : v2.ownBlock with
      | none => exact Or.inl rfl
      | some b => exact Or.inr (fun e => m.plk b (nk b e.symm) hk)
  have hm : Mid w w' s p sh B (i.setK A' (i.kn + 1) c' (i.ks ++ [x])) M v P v2 → True := fun _ => trivial
  have hh : Held w.heap.size w' (i.setK A' (i.kn + 1) c' (i.ks ++ [x])) := ⟨m.hi.bare, ⟨nz_own ho, m.hi.nz.2⟩, ho, hto, m.hi.ap.grow m.hi.to hl⟩
  have hnew : ∀ b, (i.setK A' (i.kn + 1) c' (i.ks ++ [x])).blk b → i.blk b ∨ W.heap.size ≤ b := by
    intro b hb
    rcases hb with hb | hb
    · rcases hl with hl | ⟨g, hl, hge⟩
      · exact Or.inl (Or.inl (hl.symm.trans hb))
      · have : g = b := Option.some.inj (hl.symm.trans hb)
        exact Or.inr (by omega)
    · exact Or.inl (Or.inr hb)
  have hg2 : w'.grownBy (w'.setCell ⟨B, 4, none⟩ (.slice A' (i.kn + 1) c')) (some B) := grown_set
  have hvB := m.vB
  refine ⟨hI.grown1 hg2 (Nat.le_of_lt hlo) hvB (own_not hI.pl hbx neNI) (fun j hj b hb => blk_box (hI.held j hj) hbx hb), ?_, ?_, hlo, hvB, hh.grown hg2 (fun b hb e => blk_box hh hbx hb (Option.some.inj e).symm), ?_, ?_⟩
  · exact (heap_setCell_other w' ⟨B, 4, none⟩ w.heap.size _ (by show w.heap.size ≠ B; omega)).trans hrd
  · have := heap_setCell_same w' B 4 _ _ (.slice A' (i.kn + 1) c') hbx
    rw [this, List.setIfInBounds_toArray]; rfl
  · intro j hj b hb h
    rcases hnew b h with h | h
    · exact m.sep j hj b hb h
    · have := (m.I.held j hj).low b hb; omega
  · intro b h e
    rcases hnew b h with h | h
    · exact m.plk b h e
    · have := (m.I.pl.lt b e).2; omega
/-- a target more -/
theorem Mid.aim {w W w' : World} {s : ByteArray} {p : Int} {sh : Bool} {B : Nat} {i : In} {M : List In} {v v2 : Value} {P : List Int} {A' : Option Addr} {c' : Nat} {x : Int} (m : Mid w W s p sh B i M v P v2)
    (ho : w'.ownsRow w.heap.size 3 1 (.slice A' (i.tn + 1) c') (i.tn + 1) (Ri (i.ts ++ [x]))) (hg : W.grownBy w' i.tv.ownBlock) (hl : Lies W i.tv (.slice A' (i.tn + 1) c')) :
    Mid w (w'.setCell ⟨B, 5, none⟩ (.slice A' (i.tn + 1) c')) s p sh B (i.setZ A' (i.tn + 1) c' (i.ts ++ [x])) M v P v2 := by
  have hlo := m.lo
  have hbx := box_keep hg m.box m.hi.to neNI
  have hrd : Rd w' w.heap.size s p sh := box_keep hg m.rd m.hi.to neRI
  have hko := m.hi.ap.keptR m.hi.ko hg
  have nk : ∀ b, i.tv.ownBlock = some b → i.blk b := fun b h => Or.inr h
  have hI : DecI w w' M v P v2 := by
    refine ⟨m.I.own.kept hg ?_, m.I.pl.kept hg ?_, fun j hj => (m.I.held j hj).grown hg (fun b hb e => m.sep j hj b hb (nk b e)), m.I.sep, m.I.plk, grown_own m.I.bel m.hi.to hg⟩
    · cases hk : v.ownBlock with
      | none => exact Or.inl rfl
      | some b => exact Or.inr (fun e => dec_nm m.I i m.hi b (nk b e.symm) hk)
    · cases hk : v2.ownBlock with
      | none => exact Or.inl rfl
      | some b => exact Or.inr (fun e => m.plk b (nk b e.symm) hk)
  have hh : Held w.heap.size w' (i.setZ A' (i.tn + 1) c' (i.ts ++ [x])) := ⟨m.hi.bare, ⟨m.hi.nz.1, nz_own ho⟩, hko, ho, m.hi.ap.growR m.hi.ko hl⟩
  have hnew : ∀ b, (i.setZ A' (i.tn + 1) c' (i.ts ++ [x])).blk b → i.blk b ∨ W.heap.size ≤ b := by
    intro b hb
    rcases hb with hb | hb
    · exact Or.inl (Or.inl hb)
    · rcases hl with hl | ⟨g, hl, hge⟩
      · exact Or.inl (Or.inr (hl.symm.trans hb))
      · have : g = b := Option.some.inj (hl.symm.trans hb)
        exact Or.inr (by omega)
  have hg2 : w'.grownBy (w'.setCell ⟨B, 5, none⟩ (.slice A' (i.tn + 1) c')) (some B) := grown_set
  have hvB := m.vB
  refine ⟨hI.grown1 hg2 (Nat.le_of_lt hlo) hvB (own_not hI.pl hbx neNI) (fun j hj b hb => blk_box (hI.held j hj) hbx hb), ?_, ?_, hlo, hvB, hh.grown hg2 (fun b hb e => blk_box hh hbx hb (Option.some.inj e).symm), ?_, ?_⟩
  · exact (heap_setCell_other w' ⟨B, 5, none⟩ w.heap.size _ (by show w.heap.size ≠ B; omega)).trans hrd
  · have := heap_setCell_same w' B 5 _ _ (.slice A' (i.tn + 1) c') hbx
    rw [this, List.setIfInBounds_toArray]; rfl
  · intro j hj b hb h
    rcases hnew b h with h | h
    · exact m.sep j hj b hb h
    · have := (m.I.held j hj).low b hb; omega
  · intro b h e
    rcases hnew b h with h | h
    · exact m.plk b h e
    · have := (m.I.pl.lt b e).2; omega
/-- places stand in order -/
theorem scF_lt (s : ByteArray) : ∀ (f : Nat) (p : Int), (((scF s f p).1.map Prod.fst).Pairwise (· < ·)) ∧ ∀ x ∈ (scF s f p).1.map Prod.fst, p ≤ x
  | 0, p => ⟨List.Pairwise.nil, fun x hx => by cases hx⟩
  | f + 1, p => by
    unfold scF
    by_cases h1 : (s.size : Int) ≤ p
    · rw [if_pos h1]; exact ⟨List.Pairwise.nil, fun x hx => by cases hx⟩
    · rw [if_neg h1]
      by_cases h2 : kindV (bt s p.toNat) < 0
      · rw [if_pos h2]; exact ⟨List.Pairwise.nil, fun x hx => by cases hx⟩
      · rw [if_neg h2]
        by_cases h3 : ndV s p (bt s p.toNat) < 0
        · rw [if_pos h3]; exact ⟨List.Pairwise.nil, fun x hx => by cases hx⟩
        · rw [if_neg h3]
          have hp := ndV_pos (by omega) h3
          have ih := scF_lt s f (p + ndV s p (bt s p.toNat))
          simp only [List.map_cons]
          refine ⟨List.pairwise_cons.2 ⟨fun x hx => ?_, ih.1⟩, fun x hx => ?_⟩
          · have := ih.2 x hx; omega
          · rcases List.mem_cons.1 hx with rfl | hx
            · exact Int.le_refl _
            · have := ih.2 x hx; omega

end Go.Proofs.Ytpghkdmljanncaa
