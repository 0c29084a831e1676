import Derived.Test.YtalejaklggnnpaaGreatDoorInOf
import Derived.RangeFuncNested
import Derived.RangeFuncBound
import Derived.RangeFuncCalls
import Derived.RangeFuncLeaves
import Derived.Shelf.Abstract
import Derived.Shelf.RegionOpen
import Derived.WalkKit
import Derived.OwnWalkIn
import Derived.TacticsInMore
import Derived.LoopNIn
import Derived.LoopIn
import Derived.Test.YtalejaklggnnpaaGreatDoorKitS
/- Layer 8: Offsets, in the package. -/
namespace Go.Proofs.YtalejaklggnnpaaGreatDoor.I
open Go.ChangeShapes Go.WideShapes Go.ChangeAt Go.RowKit Go.PlainAid
set_option linter.unusedSimpArgs false
set_option linter.unusedVariables false
theorem OfInv.value {w wr : World} {L : List In} {k : Nat} {v : Value} (I : OfInv w wr L k v) : ∃ A c, v = .slice A k c := by
 obtain ⟨A, c, h, _⟩ := own_form I.own
 exact ⟨A, c, h⟩
theorem OfInv.size {w wr : World} {L : List In} {k : Nat} {v : Value} (I : OfInv w wr L k v) : w.heap.size ≤ wr.heap.size := I.bel.size
set_option maxRecDepth 100000 in
set_option maxHeartbeats 2000000 in
theorem offs_any {w0 : World} {A : Option Addr} {n c : Nat} {L : List In} (hn : L.length = n) (hN : n ≤ 1000) (hp : Ins w0 w0.heap.size A L) (w : World) (hb : Below w0.heap.size w0 w) :
  Calls Tryz.prog 34 #[.slice A n c] w (OffsRet w L) := by
 have HP := Lib.hid (hp.up hb)
 have HN := Lib.hid hn
 clear hp hb hn
 obtain ⟨i0, hi, hz0, hz1, hz2⟩ := info_parts infoI
 have hw0 : IntKind.i64.wrap ((n : Int) + 1) = (n : Int) + 1 := by simp [IntKind.wrap, IntKind.bits, IntKind.signed]; omega
 go_enter Tryz.func34, Tryz.ntmps34
 go_wp2_with (at_make; refine wpList_make_own _ rfl _ _ 42 rfl w.heap.size 3 i0 (.int .i64 0) 1 Tryz.underlying42 hi hz0 hz1 .i64 .i64 ((n : Int) + 1) (n + 1) rfl rfl (by omega) (by rw [hz2]; omega) (by unfold maxLen; omega) (Nat.le_refl _) ?_; intro wm ho hg)
 have hB := grown_below hg (B := w.heap.size) (fun k hk => by cases hk) (Nat.le_refl _)
 have HO := Lib.hid ho
 clear hi hz0 hz1 hz2 ho hg
 go_wp2
 go_loopw [4, 5, 15] (fun v a x wr => ∃ k : Nat, k ≤ n ∧ x = .int .i64 k ∧ a = .int .i64 (atN L k) ∧ OfInv w wr L k v) (fun _ _ x _ => n - (intOf x).toNat)
 case atStart => exact ⟨0, Nat.zero_le _, rfl, rfl, HO.out, hB, fun j i hj => absurd hj (Nat.not_lt_zero _)⟩
 case round =>
  obtain ⟨k, hk, rfl, rfl, I⟩ := hrel
  obtain ⟨V, vc, rfl⟩ := I.value
  have hsz := I.size
  have hat := atN_bd (L := L) k (by rw [HN.out]; exact hk) I.ok
  obtain ⟨z, hz⟩ : ∃ z, atN L k = z := ⟨_, rfl⟩
  rw [hz] at hat ⊢
  have I' := Lib.hid I
  have HZ := Lib.hid hz
  clear I hz HO hB
  by_cases hlt : k < n
  ·
   obtain ⟨i, hp⟩ : ∃ p, L[k]? = some p := ⟨L[k]'(by rw [HN.out]; exact hlt), List.getElem?_eq_getElem _⟩
   have HPW := Lib.hid (HP.out.up I'.out.bel)
   rcases HPW.out with h0 | ⟨g, o, rfl, hg, hcell⟩
   ·
    rw [h0] at hp; simp at hp
   ·
    obtain ⟨iok, a0, a1, a2, a3, a4, a5, a6, a7, a8, a9⟩ := hcell k _ hp
    have IOK := Lib.hid iok
    have HPK := Lib.hid hp
    clear hcell iok hp
    have hk0 : (0 : Int) ≤ (k : Int) := by omega
    have hk1 : (k : Int) < (n : Int) := by omega
    by_cases hc : ciE i = 0
    ·
     have HC := Lib.hid hc
     have hne : (ciE i != 0) = false := by rw [hc]; rfl
     clear hc
     go_upto_region 7 with (go_at_call 59; refine (chk_any i _ (IOK.out.up (by first | exact Below.refl _ _ | exact below_al (Below.refl _ _) _))).mono ?_; rintro e w1 ⟨rfl, hb1⟩)
     obtain ⟨s0, s1, s2, s3, s4, s5, s6, s7, s8, s9⟩ := ten_cells (first_box hb1)
     have hbw := below_on (w := wr) (below_al (Below.refl _ _) _) hb1
     have hz1 := hb1.size
     simp only [World.size_alloc] at hz1
     have hza : wr.heap.size < w1.heap.size := by omega
     have HBW := Lib.hid hbw
     have HW1 := Lib.hid ((own_below I'.out.own hbw).alloc (.cells #[.int .i64 z] 3))
     clear hb1 hbw
     go_upto_region 10 with (at_builtin; refine wpList_append_ints (by rfl) _ _ (by rfl) w.heap.size k 1 1 (w1.heap.size + 1) (ofN L k) [z] _ _ (by rfl) HW1.out (by rfl) (Row.one (ten_cell0 (new_at rfl)) (by omega)) rfl (fun h => by cases h) (by omega) (by simp; omega) ?_; intro v' w2 ho hgr)
     have HO := Lib.hid ho
     have HG := Lib.hid hgr
     have hz2 := hgr.size
     simp only [World.size_alloc] at hz2
     have hkeep : ∀ j, w2.cell? ⟨wr.heap.size, j, none⟩ = w1.cell? ⟨wr.heap.size, j, none⟩ := fun j => grown_cell HG.out (by simp; omega) (fun e => by have := (I'.out.own.lt _ e).2; omega) |>.trans (World.cell?_alloc_lt _ _ _ hza)
     rw [← hkeep] at s0 s1 s2 s3 s4 s5 s6 s7 s8 s9
     have hsv := szV_bd HC.out
     have HSV := Lib.hid hsv
     obtain ⟨hs1, hs2, _, _⟩ := hsv
     have hw1 : IntKind.i64.wrap (z + szV i) = z + szV i := by simp [IntKind.wrap, IntKind.bits, IntKind.signed]; omega
     clear ho hgr hkeep
     go_wp2_with (go_at_call 76; refine (siz_any i _ (fun h => by have := HSV.out.2.2.1 h; omega) (fun h => by have := (HSV.out.2.2.2 h).1; omega)).mono ?_; rintro e w3 ⟨rfl, hb3⟩)
     go_roundw
     case rel =>
      refine ⟨k + 1, hlt, by go_num, by rw [atN_succ HPK.out, HZ.out], own_below (by rw [ofN_succ, HZ.out]; exact HO.out) hb3, ?_, ?_⟩
      ·
       exact below_on (grown_own (below_al (below_on I'.out.bel HBW.out) _) HW1.out HG.out) hb3
      ·
       intro j x hj hx
       rcases (by omega : j < k ∨ j = k) with h | rfl
       ·
        exact I'.out.ok j x h hx
       ·
        rw [HPK.out] at hx
        injection hx with hx
        rw [← hx]; exact HC.out
     case measure => simp [intOf]; omega
    ·
     have G := Lib.hid (of_1 (L := L) (by rw [chkE_bad I'.out.ok HPK.out hc]; exact hc))
     have HCE := Lib.hid (chkE_bad I'.out.ok HPK.out hc)
     have hne := bneT' hc
     clear hc
     go_wp2_with (go_at_call 59; refine (chk_any i _ (IOK.out.up (by first | exact Below.refl _ _ | exact below_al (Below.refl _ _) _))).mono ?_; rintro e w1 ⟨rfl, hb1⟩)
     go_ret2
     exact offs_no ⟨by rw [G.out.1, HCE.out], G.out.2⟩ (below_on (below_al I'.out.bel _) hb1)
  ·
   obtain ⟨rfl⟩ : n = k := by omega
   have HCK := Lib.hid (chkE_ok (L := L) fun j i hj => I'.out.ok j i (by
    rcases Nat.lt_or_ge j n with h | h
    ·
     exact h
    ·
     rw [List.getElem?_eq_none (by rw [HN.out]; exact h)] at hj; cases hj) hj)
   by_cases h2 : 20000 < z
   ·
    have G := Lib.hid (of_3 HCK.out (by rw [HN.out]; omega) (by rw [HN.out, HZ.out]; exact h2))
    go_wp2
    go_ret2
    exact offs_no G.out I'.out.bel
   ·
    have G := Lib.hid (of_4 HCK.out (by rw [HN.out]; omega) (by rw [HN.out, HZ.out]; exact h2))
    have HW1 := Lib.hid (I'.out.own.alloc (.cells #[.int .i64 z] 3))
    go_wp2_with (at_builtin; refine wpList_append_ints (by rfl) _ _ (by rfl) w.heap.size n 1 1 (wr.heap.size + 1) (ofN L n) [z] _ _ (by rfl) HW1.out (by rfl) (Row.one (ten_cell0 (new_at rfl)) (by omega)) rfl (fun h => by cases h) (by omega) (by simp; omega) ?_; intro v' w2 ho hgr)
    go_ret2
    refine offs_own ⟨G.out.1, by rw [G.out.2, HN.out, ofN_succ, HZ.out]⟩ ho ?_
    exact grown_own (below_al I'.out.bel _) HW1.out hgr
end Go.Proofs.YtalejaklggnnpaaGreatDoor.I
/- A loop over a function, where the iterator keeps cells of its own: the loop's record and the block for deferred calls stand behind two opaque words, Rd (between two rounds) and Dn (a round has left by 'return'). -/
namespace Go.Proofs.YtalejaklggnnpaaGreatDoor
open Go.RowKit
set_option linter.unusedSimpArgs false
set_option linter.unusedVariables false
/-- how a round's body may end: what must be shown of the world behind the round's end -/
def roundEnd (B l : Nat) (Rd Dn : World → Prop) (R : Ending → World → Prop) (W : World) : Exit → Act → World → Prop
 | .normal, _, W' => KeepsFrom B W W' ∧ ∀ o, Rd (W'.putObj l o) → R (.returned (.bool true)) (W'.putObj l o)
 | .ret, _, W' => KeepsFrom B W W' ∧ ∀ o, Dn (W'.putObj l o) → R (.returned (.bool false)) (W'.putObj l o)
 | _, _, _ => False
variable {F : Fence} {n : Nat} {P : Program}
theorem range_by {α : Type} {g : Operand} {ps : Array Tmp} {assign body : Code} {Q : Exit → Act → World → Prop} {a : Act} {w : World}
  (hro : F.round = none) (h1 : 1 ≤ n) {gf : Nat} {lb : Array Value} (hg : a.eval g = .func (.func gf) #[] lb) (hF : F.fn gf)
  (eg : ∀ args w, (callFunc gf args).run P w = .ok (.enter gf args) w)
  (enc : α → Array Value) (hps : ∀ x, (enc x).size = ps.size) (a₁ : α → Act)
  (hassign : ∀ (l : Nat) (x : α) (W : World) (K : Act → World → Prop), K (a₁ x) W →
   assign.wpIn (F.inRound l) (n - 1 - 1) P (Exit.then K (fun _ _ _ => False)) { tmps := (ps.zip (enc x)).foldl (fun t (p, v) => t.setIfInBounds p v) a.tmps, defers := [] } W)
  (hit : ∀ (l D : Nat) (Rd Dn : World → Prop) (W1 : World), w.heap.size ≤ D → D < l → l < W1.heap.size → Below w.heap.size w W1 → W1.heap.size = w.heap.size + 2 →
   (∀ W W', KeepsFrom w.heap.size W W' → Rd W → Rd W') → (∀ W, Rd W → l < W.heap.size) → (∀ W, Dn W → l < W.heap.size) →
   (∀ (x : α) (R : Ending → World → Prop) (W : World), Rd W →
    (∀ o, body.wpIn (F.inRound l) (n - 1 - 1) P (roundEnd w.heap.size l Rd Dn R (W.putObj l o)) (a₁ x) (W.putObj l o)) →
    YieldAt F (n - 1 - 1) P l (enc x) W R) →
   Rd W1 →
   CallsIn F (n - 1) P gf (#[.func (.yield l) #[] #[]] ++ lb) W1 fun e W2 => (∃ v, e = .returned v) ∧
    ((Rd W2 ∧ ∀ o, (W2.putObj l o).heap[D]? = some (.deferred (some [])) → Q .normal { a with defers := { target := .collected D, args := #[] } :: a.defers } (W2.putObj l o)) ∨
         (Dn W2 ∧ ∀ o, (W2.putObj l o).heap[D]? = some (.deferred (some [])) → Code.ret.wpIn F n P Q { a with defers := { target := .collected D, args := #[] } :: a.defers } (W2.putObj l o)))) :
  (Code.rangeFunc g ps assign body).wpIn F n P Q a w := by
 refine wpIn_rangeFunc fun fn hfn => ?_
 rw [hro]
 have hrun := run_enterLoop_outer (P := P) (w := w) fn a.tmps ps assign body
 generalize hrec : ({ state := .ready, pending := none, fn := fn, tmps := a.tmps, params := ps, assign := assign, body := body, defers := w.heap.size } : Loop) = rec at hrun
 have hst : rec.state = .ready := by rw [← hrec]
 generalize hW1 : (w.alloc (.deferred (some []))).alloc (.loop rec) = W1 at hrun
 have hs1 : W1.heap.size = w.heap.size + 2 := by rw [← hW1]; simp
 have hL1 : W1.heap[w.heap.size + 1]? = some (.loop rec) := by
  rw [← hW1]
  have := World.alloc_heap_new (w.alloc (.deferred (some []))) (.loop rec)
  rwa [World.size_alloc] at this
 have hD1 : W1.heap[w.heap.size]? = some (.deferred (some [])) := by
  rw [← hW1]; exact (Below.heap_alloc _ _ _ (by simp)).trans (World.alloc_heap_new w _)
 have hb1 : Below w.heap.size w W1 := by rw [← hW1]; exact ((Below.refl _ w).alloc (Nat.le_refl _) _).alloc (by simp) _
 have lt : ∀ {W : World} {k : Nat} {o : Obj}, W.heap[k]? = some o → k < W.heap.size := fun h => (Array.getElem?_eq_some_iff.1 h).1
 refine ⟨_, _, _, { target := .fn (.func gf) lb, args := #[.func (.yield (w.heap.size + 1)) #[] #[]] }, W1, gf, #[.func (.yield (w.heap.size + 1)) #[] #[]] ++ lb, W1, hrun, ?_, ?_, ?_, fun _ => h1, ?_⟩
 ·
  simp only [resolve, hg]
  simp [go_sem]
 ·
  intro f' hf'
  simp [Target.leads] at hf'
  subst hf'; exact hF
 ·
  simp [invoke, go_sem, eg]
 ·
  refine (hit (w.heap.size + 1) w.heap.size
   (fun W => W.heap[w.heap.size + 1]? = some (.loop rec) ∧ W.heap[w.heap.size]? = some (.deferred (some [])))
   (fun W => W.heap[w.heap.size + 1]? = some (.loop { rec with state := .done, pending := some .ret }) ∧ W.heap[w.heap.size]? = some (.deferred (some [])))
   W1 (Nat.le_refl _) (by omega) (by omega) hb1 hs1
   (fun W W' hk h => ⟨hk.same _ _ (by omega) h.1 rfl, hk.same _ _ (Nat.le_refl _) h.2 rfl⟩) (fun W h => lt h.1) (fun W h => lt h.1) ?_ ⟨hL1, hD1⟩).mono ?_
  ·
   rintro x R W ⟨hl, hd⟩ hbody
   have hy := run_yield (P := P) (args := enc x) hl (by rw [← hrec]; exact hps x)
   rw [← hrec] at hy
   refine ⟨fn, _, assign, body, hy, roundIn_of_wpIn hfn (hassign _ x W _ ⟨_, run_beginRound hl hst, ?_⟩)⟩
   have hl2 : (W.putObj (w.heap.size + 1) (.loop { rec with state := .busy })).heap[w.heap.size + 1]? = some (.loop { rec with state := .busy }) := World.putObj_heap_same (lt hl)
   have hd2 : (W.putObj (w.heap.size + 1) (.loop { rec with state := .busy })).heap[w.heap.size]? = some (.deferred (some [])) := (World.putObj_heap_other (by omega)).trans hd
   refine wpIn_mono (hbody _) ?_
   intro e a3 W3 hp
   have key : ∀ jump : Option Code, KeepsFrom w.heap.size (W.putObj (w.heap.size + 1) (.loop { rec with state := .busy })) W3 →
     (Instr.endRound (w.heap.size + 1) jump).run P W3 = .ok (.bool jump.isNone) (W3.putObj (w.heap.size + 1) (.loop { rec with state := if jump.isNone then .ready else .done, pending := jump })) ∧
     (W3.putObj (w.heap.size + 1) (.loop { rec with state := if jump.isNone then .ready else .done, pending := jump })).heap[w.heap.size + 1]? = some (.loop { rec with state := if jump.isNone then .ready else .done, pending := jump }) ∧
     (W3.putObj (w.heap.size + 1) (.loop { rec with state := if jump.isNone then .ready else .done, pending := jump })).heap[w.heap.size]? = some (.deferred (some [])) := fun jump hk => by
    have hl3 := hk.same _ _ (by omega) hl2 rfl
    have hd3 := hk.same _ _ (Nat.le_refl _) hd2 rfl
    exact ⟨by simpa using run_endRound (P := P) jump hl3, World.putObj_heap_same (lt hl3), (World.putObj_heap_other (by omega)).trans hd3⟩
   cases e with
   | normal =>
    obtain ⟨hk, hR⟩ := hp
    obtain ⟨k1, k2, k3⟩ := key none hk
    refine ⟨_, _, k1, hR _ ⟨k2.trans ?_, k3⟩⟩
    rw [← hrec]; rfl
   | ret =>
    obtain ⟨hk, hR⟩ := hp
    obtain ⟨k1, k2, k3⟩ := key (some .ret) hk
    exact ⟨_, _, k1, hR _ ⟨k2, k3⟩⟩
   | exit id => exact hp.elim
   | goto t => exact hp.elim
   | panic ch => exact hp.elim
   | outgrown => exact hp.elim
  ·
   rintro e W2 ⟨⟨v, rfl⟩, ⟨⟨hl, hd⟩, hq⟩ | ⟨⟨hl, hd⟩, hq⟩⟩
   ·
    refine ⟨none, _, ?_, hq (.loop { rec with state := .exhausted }) ((World.putObj_heap_other (by omega)).trans hd)⟩
    have := run_endLoop (P := P) hl (by rw [hst]; simp)
    rw [this, ← hrec]
   ·
    exact ⟨some .ret, _, run_endLoop (P := P) hl (by simp), hq (.loop { rec with state := .exhausted, pending := some .ret }) ((World.putObj_heap_other (by omega)).trans hd)⟩
end Go.Proofs.YtalejaklggnnpaaGreatDoor
