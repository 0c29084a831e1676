/- A loop over a function, where the iterator keeps cells of its own: the loop's record and the block for deferred calls stand behind two opaque words, Rd (between two rounds) and Dn (a round has left by 'return'). -/
import Derived.RangeFuncNested
import Derived.RangeFuncBound
import Derived.RangeFuncCalls
import Derived.RangeFuncLeaves
import Derived.Shelf.Abstract
import Derived.Shelf.RegionOpen
import Derived.WalkKit
import Derived.OwnWalkIn
import Derived.TacticsInMore
import Derived.LoopNIn
import Derived.LoopIn
import Derived.Test.YtfpdnhbbbadegaaGreatDoorKit
namespace Go.Proofs.YtfpdnhbbbadegaaGreatDoor
open Go.RowKit
set_option linter.unusedSimpArgs false
set_option linter.unusedVariables false

/-- how a round's body may end: what must be shown of the world behind the round's end -/
def roundEnd (B l : Nat) (Rd Dn : World → Prop) (R : Ending → World → Prop) (W : World) : Exit → Act → World → Prop
  | .normal, _, W' => KeepsFrom B W W' ∧ ∀ o, Rd (W'.putObj l o) → R (.returned (.bool true)) (W'.putObj l o)
  | .ret, _, W' => KeepsFrom B W W' ∧ ∀ o, Dn (W'.putObj l o) → R (.returned (.bool false)) (W'.putObj l o)
  | _, _, _ => False

variable {F : Fence} {n : Nat} {P : Program}

theorem range_by {α : Type} {g : Operand} {ps : Array Tmp} {assign body : Code} {Q : Exit → Act → World → Prop} {a : Act} {w : World}
    (hro : F.round = none) (h1 : 1 ≤ n) {gf : Nat} {lb : Array Value} (hg : a.eval g = .func (.func gf) #[] lb) (hF : F.fn gf)
    (eg : ∀ args w, (callFunc gf args).run P w = .ok (.enter gf args) w)
    (enc : α → Array Value) (hps : ∀ x, (enc x).size = ps.size) (a₁ : α → Act)
    (hassign : ∀ (l : Nat) (x : α) (W : World) (K : Act → World → Prop), K (a₁ x) W →
      assign.wpIn (F.inRound l) (n - 1 - 1) P (Exit.then K (fun _ _ _ => False)) { tmps := (ps.zip (enc x)).foldl (fun t (p, v) => t.setIfInBounds p v) a.tmps, defers := [] } W)
    (hit : ∀ (l D : Nat) (Rd Dn : World → Prop) (W1 : World), w.heap.size ≤ D → D < l → l < W1.heap.size → Below w.heap.size w W1 → W1.heap.size = w.heap.size + 2 →
      (∀ W W', KeepsFrom w.heap.size W W' → Rd W → Rd W') → (∀ W, Rd W → l < W.heap.size) → (∀ W, Dn W → l < W.heap.size) →
      (∀ (x : α) (R : Ending → World → Prop) (W : World), Rd W →
        (∀ o, body.wpIn (F.inRound l) (n - 1 - 1) P (roundEnd w.heap.size l Rd Dn R (W.putObj l o)) (a₁ x) (W.putObj l o)) →
        YieldAt F (n - 1 - 1) P l (enc x) W R) →
      Rd W1 →
      CallsIn F (n - 1) P gf (#[.func (.yield l) #[] #[]] ++ lb) W1 fun e W2 => (∃ v, e = .returned v) ∧
        ((Rd W2 ∧ ∀ o, (W2.putObj l o).heap[D]? = some (.deferred (some [])) → Q .normal { a with defers := { target := .collected D, args := #[] } :: a.defers } (W2.putObj l o)) ∨
         (Dn W2 ∧ ∀ o, (W2.putObj l o).heap[D]? = some (.deferred (some [])) → Code.ret.wpIn F n P Q { a with defers := { target := .collected D, args := #[] } :: a.defers } (W2.putObj l o)))) :
    (Code.rangeFunc g ps assign body).wpIn F n P Q a w := by
  refine wpIn_rangeFunc fun fn hfn => ?_
  rw [hro]
  have hrun := run_enterLoop_outer (P := P) (w := w) fn a.tmps ps assign body
  generalize hrec : ({ state := .ready, pending := none, fn := fn, tmps := a.tmps, params := ps, assign := assign, body := body, defers := w.heap.size } : Loop) = rec at hrun
  have hst : rec.state = .ready := by rw [← hrec]
  generalize hW1 : (w.alloc (.deferred (some []))).alloc (.loop rec) = W1 at hrun
  have hs1 : W1.heap.size = w.heap.size + 2 := by rw [← hW1]; simp
  have hL1 : W1.heap[w.heap.size + 1]? = some (.loop rec) := by
    rw [← hW1]
    have := World.alloc_heap_new (w.alloc (.deferred (some []))) (.loop rec)
    rwa [World.size_alloc] at this
  have hD1 : W1.heap[w.heap.size]? = some (.deferred (some [])) := by
    rw [← hW1]; exact (Below.heap_alloc _ _ _ (by simp)).trans (World.alloc_heap_new w _)
  have hb1 : Below w.heap.size w W1 := by rw [← hW1]; exact ((Below.refl _ w).alloc (Nat.le_refl _) _).alloc (by simp) _
  have lt : ∀ {W : World} {k : Nat} {o : Obj}, W.heap[k]? = some o → k < W.heap.size := fun h => (Array.getElem?_eq_some_iff.1 h).1
  refine ⟨_, _, _, { target := .fn (.func gf) lb, args := #[.func (.yield (w.heap.size + 1)) #[] #[]] }, W1, gf, #[.func (.yield (w.heap.size + 1)) #[] #[]] ++ lb, W1, hrun, ?_, ?_, ?_, fun _ => h1, ?_⟩
  · simp only [resolve, hg]
    simp [go_sem]
  · intro f' hf'
    simp [Target.leads] at hf'
    subst hf'; exact hF
  · simp [invoke, go_sem, eg]
  · refine (hit (w.heap.size + 1) w.heap.size
      (fun W => W.heap[w.heap.size + 1]? = some (.loop rec) ∧ W.heap[w.heap.size]? = some (.deferred (some [])))
      (fun W => W.heap[w.heap.size + 1]? = some (.loop { rec with state := .done, pending := some .ret }) ∧ W.heap[w.heap.size]? = some (.deferred (some [])))
      W1 (Nat.le_refl _) (by omega) (by omega) hb1 hs1
      (fun W W' hk h => ⟨hk.same _ _ (by omega) h.1 rfl, hk.same _ _ (Nat.le_refl _) h.2 rfl⟩) (fun W h => lt h.1) (fun W h => lt h.1) ?_ ⟨hL1, hD1⟩).mono ?_
    · rintro x R W ⟨hl, hd⟩ hbody
      have hy := run_yield (P := P) (args := enc x) hl (by rw [← hrec]; exact hps x)
      rw [← hrec] at hy
      refine ⟨fn, _, assign, body, hy, roundIn_of_wpIn hfn (hassign _ x W _ ⟨_, run_beginRound hl hst, ?_⟩)⟩
      have hl2 : (W.putObj (w.heap.size + 1) (.loop { rec with state := .busy })).heap[w.heap.size + 1]? = some (.loop { rec with state := .busy }) := World.putObj_heap_same (lt hl)
      have hd2 : (W.putObj (w.heap.size + 1) (.loop { rec with state := .busy })).heap[w.heap.size]? = some (.deferred (some [])) := (World.putObj_heap_other (by omega)).trans hd
      refine wpIn_mono (hbody _) ?_
      intro e a3 W3 hp
      have key : ∀ jump : Option Code, KeepsFrom w.heap.size (W.putObj (w.heap.size + 1) (.loop { rec with state := .busy })) W3 →
          (Instr.endRound (w.heap.size + 1) jump).run P W3 = .ok (.bool jump.isNone) (W3.putObj (w.heap.size + 1) (.loop { rec with state := if jump.isNone then .ready else .done, pending := jump })) ∧
          (W3.putObj (w.heap.size + 1) (.loop { rec with state := if jump.isNone then .ready else .done, pending := jump })).heap[w.heap.size + 1]? = some (.loop { rec with state := if jump.isNone then .ready else .done, pending := jump }) ∧
          (W3.putObj (w.heap.size + 1) (.loop { rec with state := if jump.isNone then .ready else .done, pending := jump })).heap[w.heap.size]? = some (.deferred (some [])) := fun jump hk => by
        have hl3 := hk.same _ _ (by omega) hl2 rfl
        have hd3 := hk.same _ _ (Nat.le_refl _) hd2 rfl
        exact ⟨by simpa using run_endRound (P := P) jump hl3, World.putObj_heap_same (lt hl3), (World.putObj_heap_other (by omega)).trans hd3⟩
      cases e with
      | normal =>
        obtain ⟨hk, hR⟩ := hp
        obtain ⟨k1, k2, k3⟩ := key none hk
        refine ⟨_, _, k1, hR _ ⟨k2.trans ?_, k3⟩⟩
        rw [← hrec]; rfl
      | ret =>
        obtain ⟨hk, hR⟩ := hp
        obtain ⟨k1, k2, k3⟩ := key (some .ret) hk
        exact ⟨_, _, k1, hR _ ⟨k2, k3⟩⟩
      | exit id => exact hp.elim
      | goto t => exact hp.elim
      | panic ch => exact hp.elim
      | outgrown => exact hp.elim
    · rintro e W2 ⟨⟨v, rfl⟩, ⟨⟨hl, hd⟩, hq⟩ | ⟨⟨hl, hd⟩, hq⟩⟩
      · refine ⟨none, _, ?_, hq (.loop { rec with state := .exhausted }) ((World.putObj_heap_other (by omega)).trans hd)⟩
        have := run_endLoop (P := P) hl (by rw [hst]; simp)
        rw [this, ← hrec]
      · exact ⟨some .ret, _, run_endLoop (P := P) hl (by simp), hq (.loop { rec with state := .exhausted, pending := some .ret }) ((World.putObj_heap_other (by omega)).trans hd)⟩

end Go.Proofs.YtfpdnhbbbadegaaGreatDoor
