/- Proved here: for every input of its parameters' types the function armature/armaturelaw18.MergeLeastUpperBound returns, answers true, and leaves what it was handed as it was; the package-level variables that the given row lists read as the program's text lays them, which the card ties to that text (of the pruned copy of the project that its seat holds). Condition, as the given row prints it: what it reads is of bulk at most 1048576. -/
import Derived.Test.YthifmcnemeiphaaDoorCards
import Derived.Test.YthifmcnemeiphaaDoorTie
import Derived.WalkKit
import Derived.ProofKit
import Derived.OpenShut
import Derived.SizedLaws
import Derived.Deep.DeepHandedRow
import Derived.Lib.LaidTab
import Derived.Lay
import Derived.ShutString
import Derived.Test.YthifmcnemeiphaaDoorMuM
import Derived.Test.YthifmcnemeiphaaDoorMnM
import Derived.WideKeyArgs

/- Nb -/
/- Layer 18: MergeFrames (written by gen/nb.py). -/
namespace Go.Proofs.YthifmcnemeiphaaDoor
open Go.ChangeShapes Go.WideShapes Go.ChangeAt Go.RowKit Go.PlainAid Go.Maps
set_option linter.unusedSimpArgs false
set_option linter.unusedVariables false

theorem all_self (P : List VT) : allB vtE P P = true := allB_yes ⟨rfl, fun j a b ha hb => by rw [ha] at hb; rw [Option.some.inj hb]; exact vtE_self _⟩
theorem eqM_self (f : FM) : eqM f f = true := by unfold eqM; rw [all_self, all_self]; simp
theorem eqM_jn {L : List CI} {f g h k : FM} (h1 : isJn L f g h) (h2 : isJn L f g k) : eqM h k = true := by
  unfold eqM
  rw [h1.1, h2.1, h1.2.1, h2.2.1, h1.2.2.1, h2.2.2.1, all_self, all_self]; simp
theorem eqM_z : eqM fmZ fmZ = true := eqM_self fmZ
set_option maxRecDepth 100000 in
set_option maxHeartbeats 8000000 in
theorem mframes_law (A : Option Addr) (n c : Nat) (L : List CI) (f g : FM) (w : World) (hn : L.length = n) (hcap : n ≤ c) (hcm : c ≤ 9223372036854775807) (hM : (names L).length ≤ 2000000) (h : CIs w w.heap.size A L) (hf : f.ok w) (hg : g.ok w) :
    Calls Tryd.prog 11 #[.slice A n c, .agg #[.slice f.A1 f.n1 f.c1, .slice f.A2 f.n2 f.c2, .bool f.u], .agg #[.slice g.A1 g.n1 g.c1, .slice g.A2 g.n2 g.c2, .bool g.u]] w fun e w' => e = .returned (.bool true) ∧ Below w.heap.size w w' := by
  have HL := Lib.hid h
  have HN := Lib.hid hn
  have HF := Lib.hid hf
  have HG := Lib.hid hg
  have KF := Lib.hid (fun (W : World) (hW : Below w.heap.size w W) => smM_any A n c L f W hn hcap hcm hM (h.up hW))
  have KG := Lib.hid (fun (W : World) (hW : Below w.heap.size w W) => smM_any A n c L g W hn hcap hcm hM (h.up hW))
  have HS := Lib.hid (show smM (accB L) f = true → n ≤ 20 ∧ Mid L ∧ VH L ∧ f.n1 ≤ 40 ∧ f.n2 ≤ 40 from fun hh => by
    unfold smM at hh
    rw [Bool.and_eq_true, Bool.and_eq_true, decide_eq_true_iff, decide_eq_true_iff] at hh
    have ha := accB_iff.1 hh.1
    exact ⟨by rw [← hn]; exact ha.1, ⟨by have := ha.1; omega, hM⟩, ha.2, hh.2.1, hh.2.2⟩)
  obtain ⟨r1, e1⟩ : ∃ r, smM (accB L) f = r := ⟨_, rfl⟩
  obtain ⟨r2, e2⟩ : ∃ r, smM (accB L) g = r := ⟨_, rfl⟩
  rw [e1] at KF HS
  rw [e2] at KG
  clear h hn hf hg hM e1 e2
  cases r1 with
  | false =>
    go_enter Tryd.func11, Tryd.ntmps11
    go_upto_region 1 with fail
    obtain ⟨H0, H1, hB⟩ := two_laid w (.cells #[.slice f.A1 f.n1 f.c1, .slice f.A2 f.n2 f.c2, .bool f.u] 56) (.cells #[.slice g.A1 g.n1 g.c1, .slice g.A2 g.n2 g.c2, .bool g.u] 56)
    generalize (w.alloc (.cells #[.slice f.A1 f.n1 f.c1, .slice f.A2 f.n2 f.c2, .bool f.u] 56)).alloc (.cells #[.slice g.A1 g.n1 g.c1, .slice g.A2 g.n2 g.c2, .bool g.u] 56) = W at H0 H1 hB ⊢
    obtain ⟨xa0, xa1, xa2, fa0, fa1, fa2⟩ := three_cells H0; obtain ⟨xb0, xb1, xb2, fb0, fb1, fb2⟩ := three_cells H1
    go_wp2_with (first | (go_at_call 46; (with_reducible refine (KF.out _ hB).mono ?_); rintro e w1 ⟨rfl, hb1⟩; replace H0 := (hb1.block _ (lt_heap H0)).trans H0; replace H1 := (hb1.block _ (lt_heap H1)).trans H1; replace hB := below_on hB hb1; clear hb1 xa0 xa1 xa2 fa0 fa1 fa2 xb0 xb1 xb2 fb0 fb1 fb2; obtain ⟨xa0, xa1, xa2, fa0, fa1, fa2⟩ := three_cells H0; obtain ⟨xb0, xb1, xb2, fb0, fb1, fb2⟩ := three_cells H1) | (go_at_call 41; (with_reducible refine (works18_any _).mono ?_); rintro e w1 ⟨rfl, hb1⟩; replace H0 := (hb1.block _ (lt_heap H0)).trans H0; replace H1 := (hb1.block _ (lt_heap H1)).trans H1; replace hB := below_on hB hb1; clear hb1 xa0 xa1 xa2 fa0 fa1 fa2 xb0 xb1 xb2 fb0 fb1 fb2; obtain ⟨xa0, xa1, xa2, fa0, fa1, fa2⟩ := three_cells H0; obtain ⟨xb0, xb1, xb2, fb0, fb1, fb2⟩ := three_cells H1))
    go_ret
    exact ⟨rfl, hB⟩
  | true =>
    cases r2 with
    | false =>
      go_enter Tryd.func11, Tryd.ntmps11
      go_upto_region 1 with fail
      obtain ⟨H0, H1, hB⟩ := two_laid w (.cells #[.slice f.A1 f.n1 f.c1, .slice f.A2 f.n2 f.c2, .bool f.u] 56) (.cells #[.slice g.A1 g.n1 g.c1, .slice g.A2 g.n2 g.c2, .bool g.u] 56)
      generalize (w.alloc (.cells #[.slice f.A1 f.n1 f.c1, .slice f.A2 f.n2 f.c2, .bool f.u] 56)).alloc (.cells #[.slice g.A1 g.n1 g.c1, .slice g.A2 g.n2 g.c2, .bool g.u] 56) = W at H0 H1 hB ⊢
      obtain ⟨xa0, xa1, xa2, fa0, fa1, fa2⟩ := three_cells H0; obtain ⟨xb0, xb1, xb2, fb0, fb1, fb2⟩ := three_cells H1
      go_wp2_with (first | (go_at_call 46; (with_reducible refine (KF.out _ hB).mono ?_); rintro e w1 ⟨rfl, hb1⟩; replace H0 := (hb1.block _ (lt_heap H0)).trans H0; replace H1 := (hb1.block _ (lt_heap H1)).trans H1; replace hB := below_on hB hb1; clear hb1 xa0 xa1 xa2 fa0 fa1 fa2 xb0 xb1 xb2 fb0 fb1 fb2; obtain ⟨xa0, xa1, xa2, fa0, fa1, fa2⟩ := three_cells H0; obtain ⟨xb0, xb1, xb2, fb0, fb1, fb2⟩ := three_cells H1) | (go_at_call 46; (with_reducible refine (KG.out _ hB).mono ?_); rintro e w1 ⟨rfl, hb1⟩; replace H0 := (hb1.block _ (lt_heap H0)).trans H0; replace H1 := (hb1.block _ (lt_heap H1)).trans H1; replace hB := below_on hB hb1; clear hb1 xa0 xa1 xa2 fa0 fa1 fa2 xb0 xb1 xb2 fb0 fb1 fb2; obtain ⟨xa0, xa1, xa2, fa0, fa1, fa2⟩ := three_cells H0; obtain ⟨xb0, xb1, xb2, fb0, fb1, fb2⟩ := three_cells H1) | (go_at_call 41; (with_reducible refine (works18_any _).mono ?_); rintro e w1 ⟨rfl, hb1⟩; replace H0 := (hb1.block _ (lt_heap H0)).trans H0; replace H1 := (hb1.block _ (lt_heap H1)).trans H1; replace hB := below_on hB hb1; clear hb1 xa0 xa1 xa2 fa0 fa1 fa2 xb0 xb1 xb2 fb0 fb1 fb2; obtain ⟨xa0, xa1, xa2, fa0, fa1, fa2⟩ := three_cells H0; obtain ⟨xb0, xb1, xb2, fb0, fb1, fb2⟩ := three_cells H1))
      go_ret
      exact ⟨rfl, hB⟩
    | true =>
      obtain ⟨hn20, hmid, hv, hm1, hm2⟩ := HS.out rfl
      have HV := Lib.hid hv
      have HM := Lib.hid hmid
      clear hv hmid HS
      by_cases hsh : shape f g
      · go_enter Tryd.func11, Tryd.ntmps11
        go_upto_region 1 with fail
        obtain ⟨H0, H1, hB⟩ := two_laid w (.cells #[.slice f.A1 f.n1 f.c1, .slice f.A2 f.n2 f.c2, .bool f.u] 56) (.cells #[.slice g.A1 g.n1 g.c1, .slice g.A2 g.n2 g.c2, .bool g.u] 56)
        generalize (w.alloc (.cells #[.slice f.A1 f.n1 f.c1, .slice f.A2 f.n2 f.c2, .bool f.u] 56)).alloc (.cells #[.slice g.A1 g.n1 g.c1, .slice g.A2 g.n2 g.c2, .bool g.u] 56) = W at H0 H1 hB ⊢
        obtain ⟨xa0, xa1, xa2, fa0, fa1, fa2⟩ := three_cells H0; obtain ⟨xb0, xb1, xb2, fb0, fb1, fb2⟩ := three_cells H1
        go_upto_region 3 with (first | (go_at_call 46; (with_reducible refine (KF.out _ hB).mono ?_); rintro e w1 ⟨rfl, hb1⟩; replace H0 := (hb1.block _ (lt_heap H0)).trans H0; replace H1 := (hb1.block _ (lt_heap H1)).trans H1; replace hB := below_on hB hb1; clear hb1 xa0 xa1 xa2 fa0 fa1 fa2 xb0 xb1 xb2 fb0 fb1 fb2; obtain ⟨xa0, xa1, xa2, fa0, fa1, fa2⟩ := three_cells H0; obtain ⟨xb0, xb1, xb2, fb0, fb1, fb2⟩ := three_cells H1) | (go_at_call 46; (with_reducible refine (KG.out _ hB).mono ?_); rintro e w1 ⟨rfl, hb1⟩; replace H0 := (hb1.block _ (lt_heap H0)).trans H0; replace H1 := (hb1.block _ (lt_heap H1)).trans H1; replace hB := below_on hB hb1; clear hb1 xa0 xa1 xa2 fa0 fa1 fa2 xb0 xb1 xb2 fb0 fb1 fb2; obtain ⟨xa0, xa1, xa2, fa0, fa1, fa2⟩ := three_cells H0; obtain ⟨xb0, xb1, xb2, fb0, fb1, fb2⟩ := three_cells H1))
        go_upto_region 4 with (go_at_call 47; (with_reducible refine (mfrM A n c L f g _ HN.out (by omega) HV.out (HL.out.up hB) (HF.out.up hB) (HG.out.up hB) (by omega) (by omega) hsh).mono ?_); rintro e w1 ⟨F, rfl, hFo, hFj, hb1⟩; have HFO := Lib.hid hFo; have HFJ := Lib.hid hFj; clear hFo hFj; replace H0 := (hb1.block _ (lt_heap H0)).trans H0; replace H1 := (hb1.block _ (lt_heap H1)).trans H1; replace hB := below_on hB hb1; clear hb1 xa0 xa1 xa2 fa0 fa1 fa2 xb0 xb1 xb2 fb0 fb1 fb2; obtain ⟨xa0, xa1, xa2, fa0, fa1, fa2⟩ := three_cells H0; obtain ⟨xb0, xb1, xb2, fb0, fb1, fb2⟩ := three_cells H1)
        have H7 := World.alloc_heap_new w1 (.cells #[.slice F.A1 F.n1 F.c1, .slice F.A2 F.n2 F.c2, .bool F.u] 56)
        replace H0 := laid_old (o' := (.cells #[.slice F.A1 F.n1 F.c1, .slice F.A2 F.n2 F.c2, .bool F.u] 56)) H0
        replace H1 := laid_old (o' := (.cells #[.slice F.A1 F.n1 F.c1, .slice F.A2 F.n2 F.c2, .bool F.u] 56)) H1
        replace hB := below_al hB (.cells #[.slice F.A1 F.n1 F.c1, .slice F.A2 F.n2 F.c2, .bool F.u] 56)
        replace HFO := Lib.hid (HFO.out.up (below_al (Below.refl _ _) (.cells #[.slice F.A1 F.n1 F.c1, .slice F.A2 F.n2 F.c2, .bool F.u] 56)))
        generalize w1.alloc (.cells #[.slice F.A1 F.n1 F.c1, .slice F.A2 F.n2 F.c2, .bool F.u] 56) = W2 at H7 H0 H1 hB HFO ⊢
        generalize w1.heap.size = B7 at H7 ⊢
        clear xa0 xa1 xa2 fa0 fa1 fa2 xb0 xb1 xb2 fb0 fb1 fb2
        obtain ⟨xa0, xa1, xa2, fa0, fa1, fa2⟩ := three_cells H0; obtain ⟨xb0, xb1, xb2, fb0, fb1, fb2⟩ := three_cells H1
        go_upto_region 5 with (go_at_call 48; (with_reducible refine (rfrM A n c L f g _ HN.out (by omega) HV.out (HL.out.up hB) (HF.out.up hB) (HG.out.up hB) (by omega) (by omega) hsh).mono ?_); rintro e w1 ⟨G, rfl, hGo, hGj, hb1⟩; have HGO := Lib.hid hGo; have HGJ := Lib.hid hGj; clear hGo hGj; replace HFO := Lib.hid (HFO.out.up hb1); replace H7 := (hb1.block _ (lt_heap H7)).trans H7; replace H0 := (hb1.block _ (lt_heap H0)).trans H0; replace H1 := (hb1.block _ (lt_heap H1)).trans H1; replace hB := below_on hB hb1; clear hb1 xa0 xa1 xa2 fa0 fa1 fa2 xb0 xb1 xb2 fb0 fb1 fb2; obtain ⟨xa0, xa1, xa2, fa0, fa1, fa2⟩ := three_cells H0; obtain ⟨xb0, xb1, xb2, fb0, fb1, fb2⟩ := three_cells H1)
        have H9 := World.alloc_heap_new w1 (.cells #[.slice G.A1 G.n1 G.c1, .slice G.A2 G.n2 G.c2, .bool G.u] 56)
        replace H0 := laid_old (o' := (.cells #[.slice G.A1 G.n1 G.c1, .slice G.A2 G.n2 G.c2, .bool G.u] 56)) H0
        replace H1 := laid_old (o' := (.cells #[.slice G.A1 G.n1 G.c1, .slice G.A2 G.n2 G.c2, .bool G.u] 56)) H1
        replace H7 := laid_old (o' := (.cells #[.slice G.A1 G.n1 G.c1, .slice G.A2 G.n2 G.c2, .bool G.u] 56)) H7
        replace hB := below_al hB (.cells #[.slice G.A1 G.n1 G.c1, .slice G.A2 G.n2 G.c2, .bool G.u] 56)
        replace HFO := Lib.hid (HFO.out.up (below_al (Below.refl _ _) (.cells #[.slice G.A1 G.n1 G.c1, .slice G.A2 G.n2 G.c2, .bool G.u] 56))); replace HGO := Lib.hid (HGO.out.up (below_al (Below.refl _ _) (.cells #[.slice G.A1 G.n1 G.c1, .slice G.A2 G.n2 G.c2, .bool G.u] 56)))
        generalize w1.alloc (.cells #[.slice G.A1 G.n1 G.c1, .slice G.A2 G.n2 G.c2, .bool G.u] 56) = W6 at H9 H7 H0 H1 hB HFO HGO ⊢
        generalize w1.heap.size = B9 at H9 ⊢
        clear xa0 xa1 xa2 fa0 fa1 fa2 xb0 xb1 xb2 fb0 fb1 fb2
        obtain ⟨kH00, kH01, kH02, _, _, _⟩ := three_cells H0
        have hlH0 := lt_heap H0
        obtain ⟨kH10, kH11, kH12, _, _, _⟩ := three_cells H1
        have hlH1 := lt_heap H1
        obtain ⟨kH70, kH71, kH72, _, _, _⟩ := three_cells H7
        have hlH7 := lt_heap H7
        obtain ⟨kH90, kH91, kH92, _, _, _⟩ := three_cells H9
        have hlH9 := lt_heap H9
        have KR := Lib.hid (fun (W' : World) (hW : Below W6.heap.size W6 W') => show Calls Tryd.prog 49 #[.agg #[.slice F.A1 F.n1 F.c1, .slice F.A2 F.n2 F.c2, .bool F.u], .agg #[.slice G.A1 G.n1 G.c1, .slice G.A2 G.n2 G.c2, .bool G.u]] W' (fun e w' => e = .returned (.bool true) ∧ Below W'.heap.size W' w') from by
          have q := reqM F G W' (HFO.out.up hW) (HGO.out.up hW)
          rw [eqM_jn HFJ.out HGJ.out] at q
          exact q)
        have KA := Lib.hid (show ∃ q, (∀ W', Below W6.heap.size W6 W' → Calls Tryd.prog 50 #[.slice A n c, .agg #[.slice f.A1 f.n1 f.c1, .slice f.A2 f.n2 f.c2, .bool f.u], .agg #[.slice g.A1 g.n1 g.c1, .slice g.A2 g.n2 g.c2, .bool g.u]] W' (fun e w' => e = .returned (.bool q) ∧ Below W'.heap.size W' w')) ∧ (∀ W', Below W6.heap.size W6 W' → Calls Tryd.prog 51 #[.slice A n c, .agg #[.slice f.A1 f.n1 f.c1, .slice f.A2 f.n2 f.c2, .bool f.u], .agg #[.slice g.A1 g.n1 g.c1, .slice g.A2 g.n2 g.c2, .bool g.u]] W' (fun e w' => e = .returned (.bool q) ∧ Below W'.heap.size W' w')) from ⟨asM L f g, fun W' hW => masM A n c L f g W' HN.out (by omega) ((HL.out.up hB).up hW) ((HF.out.up hB).up hW) ((HG.out.up hB).up hW), fun W' hW => rasM A n c L f g W' HN.out (by omega) HM.out HV.out ((HL.out.up hB).up hW) ((HF.out.up hB).up hW) ((HG.out.up hB).up hW)⟩)
        have KE := Lib.hid (show ∃ q, (∀ W', Below W6.heap.size W6 W' → Calls Tryd.prog 52 #[.agg #[.slice f.A1 f.n1 f.c1, .slice f.A2 f.n2 f.c2, .bool f.u], .agg #[.slice g.A1 g.n1 g.c1, .slice g.A2 g.n2 g.c2, .bool g.u]] W' (fun e w' => e = .returned (.bool q) ∧ Below W'.heap.size W' w')) ∧ (∀ W', Below W6.heap.size W6 W' → Calls Tryd.prog 49 #[.agg #[.slice f.A1 f.n1 f.c1, .slice f.A2 f.n2 f.c2, .bool f.u], .agg #[.slice g.A1 g.n1 g.c1, .slice g.A2 g.n2 g.c2, .bool g.u]] W' (fun e w' => e = .returned (.bool q) ∧ Below W'.heap.size W' w')) from ⟨eqM f g, fun W' hW => meqM f g W' ((HF.out.up hB).up hW) ((HG.out.up hB).up hW), fun W' hW => reqM f g W' ((HF.out.up hB).up hW) ((HG.out.up hB).up hW)⟩)
        have KX := Lib.hid (fun (W' : World) (hW : Below W6.heap.size W6 W') => show Calls Tryd.prog 52 #[.agg #[.slice f.A1 f.n1 f.c1, .slice f.A2 f.n2 f.c2, .bool f.u], .agg #[.slice f.A1 f.n1 f.c1, .slice f.A2 f.n2 f.c2, .bool f.u]] W' (fun e w' => e = .returned (.bool true) ∧ Below W'.heap.size W' w') from by
          have q := meqM f f W' ((HF.out.up hB).up hW) ((HF.out.up hB).up hW)
          rw [eqM_self] at q
          exact q)
        obtain ⟨qa, KA1, KA2⟩ := KA.out
        obtain ⟨qe, KE1, KE2⟩ := KE.out
        replace KA1 := Lib.hid KA1
        replace KA2 := Lib.hid KA2
        replace KE1 := Lib.hid KE1
        replace KE2 := Lib.hid KE2
        have HB := Lib.hid hB
        have KS := Lib.hid (fun (w' : World) (hb : Below W6.heap.size W6 w') => show (fun (w' : World) => w'.cell? ⟨w.heap.size, 0, none⟩ = some (.slice f.A1 f.n1 f.c1) ∧ w'.cell? ⟨w.heap.size, 1, none⟩ = some (.slice f.A2 f.n2 f.c2) ∧ w'.cell? ⟨w.heap.size, 2, none⟩ = some (.bool f.u) ∧ w'.cell? ⟨w.heap.size + 1, 0, none⟩ = some (.slice g.A1 g.n1 g.c1) ∧ w'.cell? ⟨w.heap.size + 1, 1, none⟩ = some (.slice g.A2 g.n2 g.c2) ∧ w'.cell? ⟨w.heap.size + 1, 2, none⟩ = some (.bool g.u) ∧ w'.cell? ⟨B7, 0, none⟩ = some (.slice F.A1 F.n1 F.c1) ∧ w'.cell? ⟨B7, 1, none⟩ = some (.slice F.A2 F.n2 F.c2) ∧ w'.cell? ⟨B7, 2, none⟩ = some (.bool F.u) ∧ w'.cell? ⟨B9, 0, none⟩ = some (.slice G.A1 G.n1 G.c1) ∧ w'.cell? ⟨B9, 1, none⟩ = some (.slice G.A2 G.n2 G.c2) ∧ w'.cell? ⟨B9, 2, none⟩ = some (.bool G.u) ∧ Below W6.heap.size W6 w') w' from ⟨(hb.cell (p := ⟨w.heap.size, 0, none⟩) hlH0).trans kH00, (hb.cell (p := ⟨w.heap.size, 1, none⟩) hlH0).trans kH01, (hb.cell (p := ⟨w.heap.size, 2, none⟩) hlH0).trans kH02, (hb.cell (p := ⟨w.heap.size + 1, 0, none⟩) hlH1).trans kH10, (hb.cell (p := ⟨w.heap.size + 1, 1, none⟩) hlH1).trans kH11, (hb.cell (p := ⟨w.heap.size + 1, 2, none⟩) hlH1).trans kH12, (hb.cell (p := ⟨B7, 0, none⟩) hlH7).trans kH70, (hb.cell (p := ⟨B7, 1, none⟩) hlH7).trans kH71, (hb.cell (p := ⟨B7, 2, none⟩) hlH7).trans kH72, (hb.cell (p := ⟨B9, 0, none⟩) hlH9).trans kH90, (hb.cell (p := ⟨B9, 1, none⟩) hlH9).trans kH91, (hb.cell (p := ⟨B9, 2, none⟩) hlH9).trans kH92, hb⟩)
        clear H0 H1 H7 H9 hB KA KE
        have hW0 := Below.refl W6.heap.size W6
        go_region_held3 (fun (w' : World) => w'.cell? ⟨w.heap.size, 0, none⟩ = some (.slice f.A1 f.n1 f.c1) ∧ w'.cell? ⟨w.heap.size, 1, none⟩ = some (.slice f.A2 f.n2 f.c2) ∧ w'.cell? ⟨w.heap.size, 2, none⟩ = some (.bool f.u) ∧ w'.cell? ⟨w.heap.size + 1, 0, none⟩ = some (.slice g.A1 g.n1 g.c1) ∧ w'.cell? ⟨w.heap.size + 1, 1, none⟩ = some (.slice g.A2 g.n2 g.c2) ∧ w'.cell? ⟨w.heap.size + 1, 2, none⟩ = some (.bool g.u) ∧ w'.cell? ⟨B7, 0, none⟩ = some (.slice F.A1 F.n1 F.c1) ∧ w'.cell? ⟨B7, 1, none⟩ = some (.slice F.A2 F.n2 F.c2) ∧ w'.cell? ⟨B7, 2, none⟩ = some (.bool F.u) ∧ w'.cell? ⟨B9, 0, none⟩ = some (.slice G.A1 G.n1 G.c1) ∧ w'.cell? ⟨B9, 1, none⟩ = some (.slice G.A2 G.n2 G.c2) ∧ w'.cell? ⟨B9, 2, none⟩ = some (.bool G.u) ∧ Below W6.heap.size W6 w') (((try go_split_ands); (first | (exact KS.out _ (below_on (w := W6) (by assumption) hq)) | (exact KS.out _ (Below.drew (by assumption))) | ((repeat' apply And.intro) <;> (first | assumption | go_keep)))))
          (first | (go_at_call 49; (with_reducible refine (KR.out _ ?_).mono ?_); (first | assumption | (go_split_ands; assumption)); rintro e wq ⟨rfl, hq⟩) | (go_at_call 50; (with_reducible refine (KA1.out _ ?_).mono ?_); (first | assumption | (go_split_ands; assumption)); rintro e wq ⟨rfl, hq⟩) | (go_at_call 51; (with_reducible refine (KA2.out _ ?_).mono ?_); (first | assumption | (go_split_ands; assumption)); rintro e wq ⟨rfl, hq⟩) | (go_at_call 52; (with_reducible refine (KE1.out _ ?_).mono ?_); (first | assumption | (go_split_ands; assumption)); rintro e wq ⟨rfl, hq⟩) | (go_at_call 49; (with_reducible refine (KE2.out _ ?_).mono ?_); (first | assumption | (go_split_ands; assumption)); rintro e wq ⟨rfl, hq⟩) | (go_at_call 52; (with_reducible refine (KX.out _ ?_).mono ?_); (first | assumption | (go_split_ands; assumption)); rintro e wq ⟨rfl, hq⟩) | (go_at_call 41; (with_reducible refine (works18_any _).mono ?_); rintro e wq ⟨rfl, hq⟩))
        go_wp2
        go_ret
        refine ⟨rfl, ?_⟩
        go_split_ands
        exact below_on HB.out (by assumption)
      · go_enter Tryd.func11, Tryd.ntmps11
        go_upto_region 1 with fail
        obtain ⟨H0, H1, hB⟩ := two_laid w (.cells #[.slice f.A1 f.n1 f.c1, .slice f.A2 f.n2 f.c2, .bool f.u] 56) (.cells #[.slice g.A1 g.n1 g.c1, .slice g.A2 g.n2 g.c2, .bool g.u] 56)
        generalize (w.alloc (.cells #[.slice f.A1 f.n1 f.c1, .slice f.A2 f.n2 f.c2, .bool f.u] 56)).alloc (.cells #[.slice g.A1 g.n1 g.c1, .slice g.A2 g.n2 g.c2, .bool g.u] 56) = W at H0 H1 hB ⊢
        obtain ⟨xa0, xa1, xa2, fa0, fa1, fa2⟩ := three_cells H0; obtain ⟨xb0, xb1, xb2, fb0, fb1, fb2⟩ := three_cells H1
        go_upto_region 3 with (first | (go_at_call 46; (with_reducible refine (KF.out _ hB).mono ?_); rintro e w1 ⟨rfl, hb1⟩; replace H0 := (hb1.block _ (lt_heap H0)).trans H0; replace H1 := (hb1.block _ (lt_heap H1)).trans H1; replace hB := below_on hB hb1; clear hb1 xa0 xa1 xa2 fa0 fa1 fa2 xb0 xb1 xb2 fb0 fb1 fb2; obtain ⟨xa0, xa1, xa2, fa0, fa1, fa2⟩ := three_cells H0; obtain ⟨xb0, xb1, xb2, fb0, fb1, fb2⟩ := three_cells H1) | (go_at_call 46; (with_reducible refine (KG.out _ hB).mono ?_); rintro e w1 ⟨rfl, hb1⟩; replace H0 := (hb1.block _ (lt_heap H0)).trans H0; replace H1 := (hb1.block _ (lt_heap H1)).trans H1; replace hB := below_on hB hb1; clear hb1 xa0 xa1 xa2 fa0 fa1 fa2 xb0 xb1 xb2 fb0 fb1 fb2; obtain ⟨xa0, xa1, xa2, fa0, fa1, fa2⟩ := three_cells H0; obtain ⟨xb0, xb1, xb2, fb0, fb1, fb2⟩ := three_cells H1))
        go_upto_region 4 with (go_at_call 47; (with_reducible refine (mfrB (.slice A n c) f g _ hsh).mono ?_); rintro e w1 ⟨rfl, hb1⟩; replace H0 := (hb1.block _ (lt_heap H0)).trans H0; replace H1 := (hb1.block _ (lt_heap H1)).trans H1; replace hB := below_on hB hb1; clear hb1 xa0 xa1 xa2 fa0 fa1 fa2 xb0 xb1 xb2 fb0 fb1 fb2; obtain ⟨xa0, xa1, xa2, fa0, fa1, fa2⟩ := three_cells H0; obtain ⟨xb0, xb1, xb2, fb0, fb1, fb2⟩ := three_cells H1)
        have H7 := World.alloc_heap_new w1 (.cells #[.slice none 0 0, .slice none 0 0, .bool false] 56)
        replace H0 := laid_old (o' := (.cells #[.slice none 0 0, .slice none 0 0, .bool false] 56)) H0
        replace H1 := laid_old (o' := (.cells #[.slice none 0 0, .slice none 0 0, .bool false] 56)) H1
        replace hB := below_al hB (.cells #[.slice none 0 0, .slice none 0 0, .bool false] 56)
        skip
        generalize w1.alloc (.cells #[.slice none 0 0, .slice none 0 0, .bool false] 56) = W2 at H7 H0 H1 hB ⊢
        generalize w1.heap.size = B7 at H7 ⊢
        clear xa0 xa1 xa2 fa0 fa1 fa2 xb0 xb1 xb2 fb0 fb1 fb2
        obtain ⟨xa0, xa1, xa2, fa0, fa1, fa2⟩ := three_cells H0; obtain ⟨xb0, xb1, xb2, fb0, fb1, fb2⟩ := three_cells H1
        go_upto_region 5 with (go_at_call 48; (with_reducible refine (rfrB (.slice A n c) f g _ hsh).mono ?_); rintro e w1 ⟨rfl, hb1⟩; replace H7 := (hb1.block _ (lt_heap H7)).trans H7; replace H0 := (hb1.block _ (lt_heap H0)).trans H0; replace H1 := (hb1.block _ (lt_heap H1)).trans H1; replace hB := below_on hB hb1; clear hb1 xa0 xa1 xa2 fa0 fa1 fa2 xb0 xb1 xb2 fb0 fb1 fb2; obtain ⟨xa0, xa1, xa2, fa0, fa1, fa2⟩ := three_cells H0; obtain ⟨xb0, xb1, xb2, fb0, fb1, fb2⟩ := three_cells H1)
        have H9 := World.alloc_heap_new w1 (.cells #[.slice none 0 0, .slice none 0 0, .bool false] 56)
        replace H0 := laid_old (o' := (.cells #[.slice none 0 0, .slice none 0 0, .bool false] 56)) H0
        replace H1 := laid_old (o' := (.cells #[.slice none 0 0, .slice none 0 0, .bool false] 56)) H1
        replace H7 := laid_old (o' := (.cells #[.slice none 0 0, .slice none 0 0, .bool false] 56)) H7
        replace hB := below_al hB (.cells #[.slice none 0 0, .slice none 0 0, .bool false] 56)
        skip
        generalize w1.alloc (.cells #[.slice none 0 0, .slice none 0 0, .bool false] 56) = W6 at H9 H7 H0 H1 hB ⊢
        generalize w1.heap.size = B9 at H9 ⊢
        clear xa0 xa1 xa2 fa0 fa1 fa2 xb0 xb1 xb2 fb0 fb1 fb2
        obtain ⟨kH00, kH01, kH02, _, _, _⟩ := three_cells H0
        have hlH0 := lt_heap H0
        obtain ⟨kH10, kH11, kH12, _, _, _⟩ := three_cells H1
        have hlH1 := lt_heap H1
        obtain ⟨kH70, kH71, kH72, _, _, _⟩ := three_cells H7
        have hlH7 := lt_heap H7
        obtain ⟨kH90, kH91, kH92, _, _, _⟩ := three_cells H9
        have hlH9 := lt_heap H9
        have KR := Lib.hid (fun (W' : World) (hW : Below W6.heap.size W6 W') => show Calls Tryd.prog 49 #[frZ, frZ] W' (fun e w' => e = .returned (.bool true) ∧ Below W'.heap.size W' w') from by
          have q := reqM fmZ fmZ W' (fmZ_ok _) (fmZ_ok _)
          rw [eqM_z] at q
          exact q)
        have KA := Lib.hid (show ∃ q, (∀ W', Below W6.heap.size W6 W' → Calls Tryd.prog 50 #[.slice A n c, .agg #[.slice f.A1 f.n1 f.c1, .slice f.A2 f.n2 f.c2, .bool f.u], .agg #[.slice g.A1 g.n1 g.c1, .slice g.A2 g.n2 g.c2, .bool g.u]] W' (fun e w' => e = .returned (.bool q) ∧ Below W'.heap.size W' w')) ∧ (∀ W', Below W6.heap.size W6 W' → Calls Tryd.prog 51 #[.slice A n c, .agg #[.slice f.A1 f.n1 f.c1, .slice f.A2 f.n2 f.c2, .bool f.u], .agg #[.slice g.A1 g.n1 g.c1, .slice g.A2 g.n2 g.c2, .bool g.u]] W' (fun e w' => e = .returned (.bool q) ∧ Below W'.heap.size W' w')) from ⟨asM L f g, fun W' hW => masM A n c L f g W' HN.out (by omega) ((HL.out.up hB).up hW) ((HF.out.up hB).up hW) ((HG.out.up hB).up hW), fun W' hW => rasM A n c L f g W' HN.out (by omega) HM.out HV.out ((HL.out.up hB).up hW) ((HF.out.up hB).up hW) ((HG.out.up hB).up hW)⟩)
        have KE := Lib.hid (show ∃ q, (∀ W', Below W6.heap.size W6 W' → Calls Tryd.prog 52 #[.agg #[.slice f.A1 f.n1 f.c1, .slice f.A2 f.n2 f.c2, .bool f.u], .agg #[.slice g.A1 g.n1 g.c1, .slice g.A2 g.n2 g.c2, .bool g.u]] W' (fun e w' => e = .returned (.bool q) ∧ Below W'.heap.size W' w')) ∧ (∀ W', Below W6.heap.size W6 W' → Calls Tryd.prog 49 #[.agg #[.slice f.A1 f.n1 f.c1, .slice f.A2 f.n2 f.c2, .bool f.u], .agg #[.slice g.A1 g.n1 g.c1, .slice g.A2 g.n2 g.c2, .bool g.u]] W' (fun e w' => e = .returned (.bool q) ∧ Below W'.heap.size W' w')) from ⟨eqM f g, fun W' hW => meqM f g W' ((HF.out.up hB).up hW) ((HG.out.up hB).up hW), fun W' hW => reqM f g W' ((HF.out.up hB).up hW) ((HG.out.up hB).up hW)⟩)
        have KX := Lib.hid (fun (W' : World) (hW : Below W6.heap.size W6 W') => show Calls Tryd.prog 52 #[.agg #[.slice f.A1 f.n1 f.c1, .slice f.A2 f.n2 f.c2, .bool f.u], .agg #[.slice f.A1 f.n1 f.c1, .slice f.A2 f.n2 f.c2, .bool f.u]] W' (fun e w' => e = .returned (.bool true) ∧ Below W'.heap.size W' w') from by
          have q := meqM f f W' ((HF.out.up hB).up hW) ((HF.out.up hB).up hW)
          rw [eqM_self] at q
          exact q)
        obtain ⟨qa, KA1, KA2⟩ := KA.out
        obtain ⟨qe, KE1, KE2⟩ := KE.out
        replace KA1 := Lib.hid KA1
        replace KA2 := Lib.hid KA2
        replace KE1 := Lib.hid KE1
        replace KE2 := Lib.hid KE2
        have HB := Lib.hid hB
        have KS := Lib.hid (fun (w' : World) (hb : Below W6.heap.size W6 w') => show (fun (w' : World) => w'.cell? ⟨w.heap.size, 0, none⟩ = some (.slice f.A1 f.n1 f.c1) ∧ w'.cell? ⟨w.heap.size, 1, none⟩ = some (.slice f.A2 f.n2 f.c2) ∧ w'.cell? ⟨w.heap.size, 2, none⟩ = some (.bool f.u) ∧ w'.cell? ⟨w.heap.size + 1, 0, none⟩ = some (.slice g.A1 g.n1 g.c1) ∧ w'.cell? ⟨w.heap.size + 1, 1, none⟩ = some (.slice g.A2 g.n2 g.c2) ∧ w'.cell? ⟨w.heap.size + 1, 2, none⟩ = some (.bool g.u) ∧ w'.cell? ⟨B7, 0, none⟩ = some (.slice none 0 0) ∧ w'.cell? ⟨B7, 1, none⟩ = some (.slice none 0 0) ∧ w'.cell? ⟨B7, 2, none⟩ = some (.bool false) ∧ w'.cell? ⟨B9, 0, none⟩ = some (.slice none 0 0) ∧ w'.cell? ⟨B9, 1, none⟩ = some (.slice none 0 0) ∧ w'.cell? ⟨B9, 2, none⟩ = some (.bool false) ∧ Below W6.heap.size W6 w') w' from ⟨(hb.cell (p := ⟨w.heap.size, 0, none⟩) hlH0).trans kH00, (hb.cell (p := ⟨w.heap.size, 1, none⟩) hlH0).trans kH01, (hb.cell (p := ⟨w.heap.size, 2, none⟩) hlH0).trans kH02, (hb.cell (p := ⟨w.heap.size + 1, 0, none⟩) hlH1).trans kH10, (hb.cell (p := ⟨w.heap.size + 1, 1, none⟩) hlH1).trans kH11, (hb.cell (p := ⟨w.heap.size + 1, 2, none⟩) hlH1).trans kH12, (hb.cell (p := ⟨B7, 0, none⟩) hlH7).trans kH70, (hb.cell (p := ⟨B7, 1, none⟩) hlH7).trans kH71, (hb.cell (p := ⟨B7, 2, none⟩) hlH7).trans kH72, (hb.cell (p := ⟨B9, 0, none⟩) hlH9).trans kH90, (hb.cell (p := ⟨B9, 1, none⟩) hlH9).trans kH91, (hb.cell (p := ⟨B9, 2, none⟩) hlH9).trans kH92, hb⟩)
        clear H0 H1 H7 H9 hB KA KE
        have hW0 := Below.refl W6.heap.size W6
        go_region_held3 (fun (w' : World) => w'.cell? ⟨w.heap.size, 0, none⟩ = some (.slice f.A1 f.n1 f.c1) ∧ w'.cell? ⟨w.heap.size, 1, none⟩ = some (.slice f.A2 f.n2 f.c2) ∧ w'.cell? ⟨w.heap.size, 2, none⟩ = some (.bool f.u) ∧ w'.cell? ⟨w.heap.size + 1, 0, none⟩ = some (.slice g.A1 g.n1 g.c1) ∧ w'.cell? ⟨w.heap.size + 1, 1, none⟩ = some (.slice g.A2 g.n2 g.c2) ∧ w'.cell? ⟨w.heap.size + 1, 2, none⟩ = some (.bool g.u) ∧ w'.cell? ⟨B7, 0, none⟩ = some (.slice none 0 0) ∧ w'.cell? ⟨B7, 1, none⟩ = some (.slice none 0 0) ∧ w'.cell? ⟨B7, 2, none⟩ = some (.bool false) ∧ w'.cell? ⟨B9, 0, none⟩ = some (.slice none 0 0) ∧ w'.cell? ⟨B9, 1, none⟩ = some (.slice none 0 0) ∧ w'.cell? ⟨B9, 2, none⟩ = some (.bool false) ∧ Below W6.heap.size W6 w') (((try go_split_ands); (first | (exact KS.out _ (below_on (w := W6) (by assumption) hq)) | (exact KS.out _ (Below.drew (by assumption))) | ((repeat' apply And.intro) <;> (first | assumption | go_keep)))))
          (first | (go_at_call 49; (with_reducible refine (KR.out _ ?_).mono ?_); (first | assumption | (go_split_ands; assumption)); rintro e wq ⟨rfl, hq⟩) | (go_at_call 50; (with_reducible refine (KA1.out _ ?_).mono ?_); (first | assumption | (go_split_ands; assumption)); rintro e wq ⟨rfl, hq⟩) | (go_at_call 51; (with_reducible refine (KA2.out _ ?_).mono ?_); (first | assumption | (go_split_ands; assumption)); rintro e wq ⟨rfl, hq⟩) | (go_at_call 52; (with_reducible refine (KE1.out _ ?_).mono ?_); (first | assumption | (go_split_ands; assumption)); rintro e wq ⟨rfl, hq⟩) | (go_at_call 49; (with_reducible refine (KE2.out _ ?_).mono ?_); (first | assumption | (go_split_ands; assumption)); rintro e wq ⟨rfl, hq⟩) | (go_at_call 52; (with_reducible refine (KX.out _ ?_).mono ?_); (first | assumption | (go_split_ands; assumption)); rintro e wq ⟨rfl, hq⟩) | (go_at_call 41; (with_reducible refine (works18_any _).mono ?_); rintro e wq ⟨rfl, hq⟩))
        go_wp2
        go_ret
        refine ⟨rfl, ?_⟩
        go_split_ands
        exact below_on HB.out (by assumption)
end Go.Proofs.YthifmcnemeiphaaDoor

/- Nd -/
/- Layer 18: the joins of types and of verification types, pure. -/
namespace Go.Proofs.YthifmcnemeiphaaDoor
open Go.ChangeShapes Go.WideShapes Go.ChangeAt Go.RowKit Go.PlainAid Go.Maps
set_option linter.unusedSimpArgs false
set_option linter.unusedVariables false

theorem tyE_iff {a b : TY} : tyE a b = true ↔ a = b := ⟨tyE_eq, fun h => h ▸ tyE_self _⟩
theorem vtE_iff {a b : VT} : vtE a b = true ↔ a = b := ⟨vtE_eq, fun h => h ▸ vtE_self _⟩
theorem ref_facts {x : TY} (h : x.ref = true) : 0 ≤ x.d ∧ x.d ≤ 8 ∧ ¬ x.b = 86 ∧ (0 < x.d ∨ x.b = 76) ∧ validB x.d x.b x.s = true := by
  unfold TY.ref at h
  rw [Bool.and_eq_true, Bool.or_eq_true, decide_eq_true_iff, beq_iff_eq] at h
  obtain ⟨hv, hr⟩ := h
  have hb := valid_bd hv
  refine ⟨hb.1, hb.2, fun e => ?_, hr, hv⟩
  rw [valid_in hb, e] at hv
  simp at hv
  omega
theorem ref_dp {x : TY} (h : x.ref = true) : 0 ≤ x.dp ∧ x.dp ≤ x.d ∧ (¬ x.b = 76 → x.dp < x.d) := by
  obtain ⟨h0, h8, _, hr, _⟩ := ref_facts h
  unfold TY.dp
  split <;> omega
theorem ref_mk {d : Int} {s : ByteArray} (h0 : 0 ≤ d) (h8 : d ≤ 8) (hs : clsB s = true) : (TY.mk d 76 s).ref = true := by
  unfold TY.ref
  rw [valid_in ⟨h0, h8⟩]
  simp [hs]
theorem ref_z : tyZ.ref = false := by decide +kernel
theorem tyJ_cases (L : List CI) {a b : TY} (ha : a.ref = true) (hb : b.ref = true) : (a = b ∧ tyJ L a b = a) ∨ (¬ a = b ∧ a.b = 76 ∧ b.b = 76 ∧ a.d = b.d ∧ tyJ L a b = ⟨a.d, 76, csV L a.s b.s⟩) ∨ (¬ a = b ∧ ¬ (a.b = 76 ∧ b.b = 76 ∧ a.d = b.d) ∧ tyJ L a b = ⟨if b.dp < a.dp then b.dp else a.dp, 76, rootS⟩) := by
  by_cases he : a = b
  · exact Or.inl ⟨he, tyJ_eq ha hb (tyE_iff.2 he)⟩
  · have hE : tyE a b = false := by
      cases h : tyE a b with
      | false => rfl
      | true => exact absurd (tyE_eq h) he
    right
    by_cases hc : a.b = 76 ∧ b.b = 76 ∧ a.d = b.d
    · left
      refine ⟨he, hc.1, hc.2.1, hc.2.2, ?_⟩
      unfold tyJ
      rw [if_neg (by simp [ha, hb]), if_neg (by simp [hE]), if_pos hc]
    · exact Or.inr ⟨he, hc, tyJ_far ha hb hE hc⟩
theorem tyJ_ref {L : List CI} (hv : VH L) {a b : TY} (ha : a.ref = true) (hb : b.ref = true) : (tyJ L a b).ref = true := by
  obtain ⟨a0, a8, _, _, av⟩ := ref_facts ha
  have da := ref_dp ha
  have db := ref_dp hb
  rcases tyJ_cases L ha hb with ⟨_, h⟩ | ⟨_, h1, _, _, h⟩ | ⟨_, _, h⟩
  · rw [h]; exact ha
  · rw [h]
    rw [h1, valid_in ⟨a0, a8⟩] at av
    exact ref_mk a0 a8 (csV_cls hv (by simpa using av))
  · rw [h]
    refine ref_mk ?_ ?_ root_cls
    · split <;> omega
    · split <;> omega
theorem ta_iff {L : List CI} {a c : TY} (ha : a.ref = true) (hc : c.ref = true) : taB L a c = true ↔ a = c ∨ (c.b = 76 ∧ (((c.s.toList == rootL) = true ∧ c.d = 0) ∨ (a.d = c.d ∧ a.b = 76 ∧ caB L a.s c.s = true) ∨ (c.d < a.d ∧ (c.s.toList == rootL) = true))) := by
  obtain ⟨_, _, na, ra, va⟩ := ref_facts ha
  obtain ⟨_, _, nc, rc, vc⟩ := ref_facts hc
  have hr : (decide (0 < a.d) || (a.b == 76)) = true := by
    rw [Bool.or_eq_true, decide_eq_true_iff, beq_iff_eq]; exact ra
  unfold taB
  rw [va, vc, if_neg (show ¬ true = false by decide), if_neg (show ¬ true = false by decide), if_neg na, if_neg nc]
  by_cases he : a = c
  · rw [if_pos (tyE_iff.2 he)]; exact ⟨fun _ => Or.inl he, fun _ => rfl⟩
  · rw [if_neg (fun h => he (tyE_iff.1 h)), hr, if_neg (show ¬ true = false by decide)]
    by_cases h76 : c.b = 76
    · rw [if_neg (fun h => h h76)]
      by_cases hz : (c.s.toList == rootL) = true ∧ c.d = 0
      · rw [if_pos hz]; exact ⟨fun _ => Or.inr ⟨h76, Or.inl hz⟩, fun _ => rfl⟩
      · rw [if_neg hz]
        by_cases hd : a.d = c.d
        · rw [if_pos hd]
          by_cases hb : a.b = 76
          · rw [if_pos hb]
            refine ⟨fun h => Or.inr ⟨h76, Or.inr (Or.inl ⟨hd, hb, h⟩)⟩, ?_⟩
            rintro (h | ⟨_, h | ⟨_, _, h⟩ | ⟨h, _⟩⟩)
            · exact absurd h he
            · exact absurd h hz
            · exact h
            · omega
          · rw [if_neg hb]
            refine ⟨fun h => (by cases h), ?_⟩
            rintro (h | ⟨_, h | ⟨_, h, _⟩ | ⟨h, _⟩⟩)
            · exact absurd h he
            · exact absurd h hz
            · exact absurd h hb
            · omega
        · rw [if_neg hd]
          by_cases hg : c.d < a.d ∧ (c.s.toList == rootL) = true
          · rw [if_pos hg]; exact ⟨fun _ => Or.inr ⟨h76, Or.inr (Or.inr hg)⟩, fun _ => rfl⟩
          · rw [if_neg hg]
            refine ⟨fun h => (by cases h), ?_⟩
            rintro (h | ⟨_, h | ⟨h, _⟩ | h⟩)
            · exact absurd h he
            · exact absurd h hz
            · exact absurd h hd
            · exact absurd h hg
    · rw [if_pos h76]
      refine ⟨fun h => (by cases h), ?_⟩
      rintro (h | ⟨h, _⟩)
      · exact absurd h he
      · exact absurd h h76
theorem root_eq : (rootS.toList == rootL) = true := by rw [root_tl]; exact beq_self_eq_true _
theorem root_of {s : ByteArray} (h : (s.toList == rootL) = true) : s = rootS := toList_iff.1 ((beq_iff_eq.1 h).trans root_tl.symm)
theorem ta_up {L : List CI} (hv : VH L) {a b : TY} (ha : a.ref = true) (hb : b.ref = true) : taB L a (tyJ L a b) = true ∧ taB L b (tyJ L a b) = true := by
  have hj := tyJ_ref hv ha hb
  have da := ref_dp ha
  have db := ref_dp hb
  rw [ta_iff ha hj, ta_iff hb hj]
  rcases tyJ_cases L ha hb with ⟨e, h⟩ | ⟨_, h1, h2, h3, h⟩ | ⟨_, _, h⟩
  · rw [h]; exact ⟨Or.inl rfl, Or.inl e.symm⟩
  · rw [h]
    obtain ⟨t1, t2⟩ := csV_take hv a.s b.s
    exact ⟨Or.inr ⟨rfl, Or.inr (Or.inl ⟨rfl, h1, t1⟩)⟩, Or.inr ⟨rfl, Or.inr (Or.inl ⟨h3.symm, h2, t2⟩)⟩⟩
  · rw [h]
    have key : ∀ x : TY, x.ref = true → ∀ m : Int, m ≤ x.dp → x = ⟨m, 76, rootS⟩ ∨ ((76 : Int) = 76 ∧ (((rootS.toList == rootL) = true ∧ m = 0) ∨ (x.d = m ∧ x.b = 76 ∧ caB L x.s rootS = true) ∨ (m < x.d ∧ (rootS.toList == rootL) = true))) := by
      intro x hx m hm
      have dx := ref_dp hx
      refine Or.inr ⟨rfl, ?_⟩
      by_cases hd : x.d = m
      · refine Or.inr (Or.inl ⟨hd, ?_, ?_⟩)
        · by_cases hb : x.b = 76
          · exact hb
          · have := dx.2.2 hb; omega
        · unfold caB; rw [tk_root]; rfl
      · exact Or.inr (Or.inr ⟨by omega, root_eq⟩)
    exact ⟨key a ha _ (by split <;> omega), key b hb _ (by split <;> omega)⟩
theorem tyJ_comm {L : List CI} (hv : VH L) {a b : TY} (ha : a.ref = true) (hb : b.ref = true) : tyJ L a b = tyJ L b a := by
  rcases tyJ_cases L ha hb with ⟨e, h⟩ | ⟨e, h1, h2, h3, h⟩ | ⟨e, hn, h⟩
  · rw [e]
  · rcases tyJ_cases L hb ha with ⟨e', _⟩ | ⟨_, _, _, _, k⟩ | ⟨_, k, _⟩
    · exact absurd e'.symm e
    · rw [h, k, h3]
      congr 1
      refine csV_comm hv ?_
      cases hq : (a.s.toList == b.s.toList) with
      | false => rfl
      | true =>
        refine absurd ?_ e
        cases a; cases b
        simp only at h1 h2 h3 hq
        rw [h1, h2, h3, toList_iff.1 (beq_iff_eq.1 hq)]
    · exact absurd ⟨h2, h1, h3.symm⟩ k
  · rcases tyJ_cases L hb ha with ⟨e', _⟩ | ⟨_, k1, k2, k3, _⟩ | ⟨_, _, k⟩
    · exact absurd e'.symm e
    · exact absurd ⟨k2, k1, k3.symm⟩ hn
    · rw [h, k]
      congr 1
      split <;> split <;> omega
theorem tyJ_absorb {L : List CI} (hv : VH L) {a b : TY} (ha : a.ref = true) (hb : b.ref = true) : tyJ L (tyJ L a b) b = tyJ L a b := by
  have hj := tyJ_ref hv ha hb
  have db := ref_dp hb
  rcases tyJ_cases L ha hb with ⟨e, h⟩ | ⟨e, h1, h2, h3, h⟩ | ⟨e, hn, h⟩
  · rw [h, h]
  · rw [h] at hj ⊢
    rcases tyJ_cases L hj hb with ⟨_, k⟩ | ⟨_, _, _, _, k⟩ | ⟨_, k, _⟩
    · exact k
    · rw [k]
      show TY.mk a.d 76 (csV L (csV L a.s b.s) b.s) = TY.mk a.d 76 (csV L a.s b.s)
      rw [csV_absorb hv]
    · exact absurd ⟨rfl, h2, h3⟩ k
  · rw [h] at hj ⊢
    rcases tyJ_cases L hj hb with ⟨_, k⟩ | ⟨_, _, _, _, k⟩ | ⟨_, _, k⟩
    · exact k
    · rw [k]
      show TY.mk _ 76 (csV L rootS b.s) = TY.mk _ 76 rootS
      rw [csV_root hv]
    · rw [k]
      have hd : (TY.mk (if b.dp < a.dp then b.dp else a.dp) 76 rootS).dp = (if b.dp < a.dp then b.dp else a.dp) := dp_76
      rw [hd]
      congr 1
      split
      · split at * <;> omega
      · rfl
theorem ta_lub {L : List CI} (hv : VH L) {a b c : TY} (ha : a.ref = true) (hb : b.ref = true) (hc : c.ref = true) (h1 : taB L a c = true) (h2 : taB L b c = true) : taB L (tyJ L a b) c = true := by
  have hj := tyJ_ref hv ha hb
  have da := ref_dp ha
  have db := ref_dp hb
  rw [ta_iff hj hc]
  have e1 := (ta_iff ha hc).1 h1
  have e2 := (ta_iff hb hc).1 h2
  rcases tyJ_cases L ha hb with ⟨_, h⟩ | ⟨e, k1, k2, k3, h⟩ | ⟨e, hn, h⟩
  · rw [h]; exact e1
  · rw [h]
    have key : c.b = 76 ∧ (((c.s.toList == rootL) = true ∧ c.d = 0) ∨ (a.d = c.d ∧ caB L a.s c.s = true ∧ caB L b.s c.s = true) ∨ (c.d < a.d ∧ (c.s.toList == rootL) = true)) := by
      have self : ∀ s : ByteArray, caB L s s = true := fun s => by unfold caB; rw [isV_refl, Bool.or_true]
      rcases e1 with rfl | ⟨c1, e1⟩
      · rcases e2 with rfl | ⟨_, e2 | ⟨_, _, e2⟩ | ⟨e2, _⟩⟩
        · exact absurd rfl e
        · exact ⟨k1, Or.inl e2⟩
        · exact ⟨k1, Or.inr (Or.inl ⟨rfl, self _, e2⟩)⟩
        · omega
      · rcases e2 with rfl | ⟨_, e2⟩
        · rcases e1 with e1 | ⟨_, _, e1⟩ | e1
          · exact ⟨c1, Or.inl e1⟩
          · exact ⟨c1, Or.inr (Or.inl ⟨k3, e1, self _⟩)⟩
          · exact ⟨c1, Or.inr (Or.inr e1)⟩
        · rcases e1 with e1 | ⟨d1, _, e1⟩ | e1
          · exact ⟨c1, Or.inl e1⟩
          · rcases e2 with e2 | ⟨_, _, e2⟩ | ⟨e2, _⟩
            · exact ⟨c1, Or.inl e2⟩
            · exact ⟨c1, Or.inr (Or.inl ⟨d1, e1, e2⟩)⟩
            · omega
          · exact ⟨c1, Or.inr (Or.inr e1)⟩
    obtain ⟨c1, kk⟩ := key
    refine Or.inr ⟨c1, ?_⟩
    rcases kk with kk | ⟨kd, q1, q2⟩ | kk
    · exact Or.inl kk
    · exact Or.inr (Or.inl ⟨kd, rfl, ca_lub hv q1 q2⟩)
    · exact Or.inr (Or.inr kk)
  · rw [h]
    have fin : ∀ m : Int, c.b = 76 → (c.s.toList == rootL) = true → c.d ≤ m → (⟨m, 76, rootS⟩ : TY) = c ∨ (c.b = 76 ∧ (((c.s.toList == rootL) = true ∧ c.d = 0) ∨ (m = c.d ∧ (76 : Int) = 76 ∧ caB L rootS c.s = true) ∨ (c.d < m ∧ (c.s.toList == rootL) = true))) := by
      intro m h1 h2 h3
      by_cases hd : m = c.d
      · left
        cases c
        simp only at h1 h2 hd
        rw [h1, hd, root_of h2]
      · exact Or.inr ⟨h1, Or.inr (Or.inr ⟨by omega, h2⟩)⟩
    have done : c.b = 76 ∧ (c.s.toList == rootL) = true ∧ c.d ≤ (if b.dp < a.dp then b.dp else a.dp) ∨ c.b = 76 ∧ (c.s.toList == rootL) = true ∧ c.d = 0 := by
      have dp0 : 0 ≤ (if b.dp < a.dp then b.dp else a.dp) := by split <;> omega
      have dpa : ∀ x : TY, x.ref = true → x.b = 76 → x.dp = x.d := fun x _ hx => by unfold TY.dp; rw [if_pos hx]
      have low : ∀ x : TY, x.ref = true → c.d < x.d → c.d ≤ x.dp := fun x hx hl => by
        unfold TY.dp; split <;> omega
      rcases e1 with rfl | ⟨c1, e1⟩
      · rcases e2 with rfl | ⟨c2, e2 | ⟨d2, b2, _⟩ | ⟨l2, r2⟩⟩
        · exact absurd rfl e
        · exact Or.inr ⟨c2, e2⟩
        · exact absurd ⟨c2, b2, d2.symm⟩ hn
        · left
          refine ⟨c2, r2, ?_⟩
          have := low b hb l2
          have := dpa a ha c2
          split <;> omega
      · rcases e2 with rfl | ⟨_, e2⟩
        · rcases e1 with e1 | ⟨d1, b1, _⟩ | ⟨l1, r1⟩
          · exact Or.inr ⟨c1, e1⟩
          · exact absurd ⟨b1, c1, d1⟩ hn
          · left
            refine ⟨c1, r1, ?_⟩
            have := low a ha l1
            have := dpa b hb c1
            split <;> omega
        · rcases e1 with e1 | ⟨d1, b1, _⟩ | ⟨l1, r1⟩
          · exact Or.inr ⟨c1, e1⟩
          · rcases e2 with e2 | ⟨d2, b2, _⟩ | ⟨l2, r2⟩
            · exact Or.inr ⟨c1, e2⟩
            · exact absurd ⟨b1, b2, by omega⟩ hn
            · left
              refine ⟨c1, r2, ?_⟩
              have := low b hb l2
              have := dpa a ha b1
              split <;> omega
          · rcases e2 with e2 | ⟨d2, b2, _⟩ | ⟨l2, r2⟩
            · exact Or.inr ⟨c1, e2⟩
            · left
              refine ⟨c1, r1, ?_⟩
              have := low a ha l1
              have := dpa b hb b2
              split <;> omega
            · left
              refine ⟨c1, r1, ?_⟩
              have := low a ha l1
              have := low b hb l2
              split <;> omega
    rcases done with ⟨c1, r1, l1⟩ | ⟨c1, r1, z1⟩
    · exact fin _ c1 r1 l1
    · exact Or.inr ⟨c1, Or.inl ⟨r1, z1⟩⟩
end Go.Proofs.YthifmcnemeiphaaDoor

/- Ne -/
/- Layer 18: the joins of verification types and of frames, pure. -/
namespace Go.Proofs.YthifmcnemeiphaaDoor
open Go.ChangeShapes Go.WideShapes Go.ChangeAt Go.RowKit Go.PlainAid Go.Maps
set_option linter.unusedSimpArgs false
set_option linter.unusedVariables false

theorem ok_nul {v : VT} (h : v.ok = true) (hk : v.k = 3) : v = ⟨3, 0, 0, 0, ⟨#[]⟩, 0⟩ := by
  obtain ⟨k, n, d, b, s, p⟩ := v
  unfold VT.ok vvB at h
  simp only at hk h
  subst hk
  simp only [Bool.and_eq_true, Bool.or_eq_true, decide_eq_true_iff] at h
  obtain ⟨⟨⟨h1, h2⟩, _⟩, h4⟩ := h
  rw [if_pos ⟨by omega, by omega⟩] at h4
  simp only [Bool.and_eq_true, decide_eq_true_iff] at h4
  obtain ⟨⟨h5, h6⟩, h7⟩ := h4
  have hs : s = ⟨#[]⟩ := s_nil.2 (by simpa using h7)
  have hn : n = 0 := by omega
  rw [h1, hn, h5, h6, hs]
theorem ok_ref {v : VT} (h : v.ok = true) (hk : v.k = 4) : v = ⟨4, 0, v.d, v.b, v.s, 0⟩ ∧ v.ty.ref = true := by
  obtain ⟨k, n, d, b, s, p⟩ := v
  unfold VT.ok vvB at h
  simp only at hk h
  subst hk
  simp only [Bool.and_eq_true, Bool.or_eq_true, decide_eq_true_iff] at h
  obtain ⟨⟨⟨h1, h2⟩, _⟩, h4⟩ := h
  rw [if_neg (by omega), if_pos trivial] at h4
  have hn : n = 0 := by omega
  refine ⟨by rw [h1, hn], ?_⟩
  unfold VT.ty TY.ref
  exact h4
theorem ref_ok {t : TY} (h : t.ref = true) : VT.ok ⟨4, 0, t.d, t.b, t.s, 0⟩ = true := by
  unfold VT.ok vvB
  simp only [Bool.and_eq_true, Bool.or_eq_true, decide_eq_true_iff]
  refine ⟨⟨⟨trivial, Or.inr trivial⟩, by omega⟩, ?_⟩
  rw [if_neg (by omega), if_pos trivial]
  unfold TY.ref at h
  exact h
theorem ok_z : vtZ.ok = true := by decide +kernel
theorem as_iff {L : List CI} {a c : VT} (ha : a.ok = true) (hc : c.ok = true) : asB L a c = true ↔ c.k = 0 ∨ a = c ∨ (c.k = 4 ∧ (a.k = 3 ∨ (a.k = 4 ∧ taB L a.ty c.ty = true))) := by
  unfold asB
  rw [ha, hc, if_neg (show ¬ true = false by decide), if_neg (show ¬ true = false by decide)]
  by_cases h0 : c.k = 0
  · rw [if_pos h0]; exact ⟨fun _ => Or.inl h0, fun _ => rfl⟩
  · rw [if_neg h0]
    by_cases he : a = c
    · rw [if_pos (vtE_iff.2 he)]; exact ⟨fun _ => Or.inr (Or.inl he), fun _ => rfl⟩
    · rw [if_neg (fun h => he (vtE_iff.1 h))]
      by_cases h4 : c.k = 4
      · rw [if_neg (fun h => h h4)]
        by_cases h3 : a.k = 3
        · rw [if_pos h3]; exact ⟨fun _ => Or.inr (Or.inr ⟨h4, Or.inl h3⟩), fun _ => rfl⟩
        · rw [if_neg h3]
          by_cases ha4 : a.k = 4
          · rw [if_pos ha4]
            refine ⟨fun h => Or.inr (Or.inr ⟨h4, Or.inr ⟨ha4, h⟩⟩), ?_⟩
            rintro (h | h | ⟨_, h | ⟨_, h⟩⟩)
            · exact absurd h h0
            · exact absurd h he
            · exact absurd h h3
            · exact h
          · rw [if_neg ha4]
            refine ⟨fun h => (by cases h), ?_⟩
            rintro (h | h | ⟨_, h | ⟨h, _⟩⟩)
            · exact absurd h h0
            · exact absurd h he
            · exact absurd h h3
            · exact absurd h ha4
      · rw [if_pos h4]
        refine ⟨fun h => (by cases h), ?_⟩
        rintro (h | h | ⟨h, _⟩)
        · exact absurd h h0
        · exact absurd h he
        · exact absurd h h4
theorem as_self {L : List CI} {a : VT} (ha : a.ok = true) : asB L a a = true := (as_iff ha ha).2 (Or.inr (Or.inl rfl))
theorem vtJ_cases {L : List CI} (hv : VH L) {a b : VT} (ha : a.ok = true) (hb : b.ok = true) : (a = b ∧ vtJ L a b = a) ∨ (a.k = 3 ∧ b.k = 4 ∧ vtJ L a b = b) ∨ (a.k = 4 ∧ b.k = 3 ∧ vtJ L a b = a) ∨ (¬ a = b ∧ a.k = 4 ∧ b.k = 4 ∧ vtJ L a b = ⟨4, 0, (tyJ L a.ty b.ty).d, (tyJ L a.ty b.ty).b, (tyJ L a.ty b.ty).s, 0⟩) ∨ (¬ a = b ∧ ¬ (a.k = 3 ∧ b.k = 4) ∧ ¬ (a.k = 4 ∧ b.k = 3) ∧ ¬ (a.k = 4 ∧ b.k = 4) ∧ vtJ L a b = vtZ) := by
  unfold vtJ
  by_cases he : a = b
  · left; rw [if_pos (vtE_iff.2 he)]; exact ⟨he, rfl⟩
  · right
    rw [if_neg (fun h => he (vtE_iff.1 h))]
    by_cases h1 : a.k = 3 ∧ b.k = 4
    · left; rw [if_pos h1]; exact ⟨h1.1, h1.2, rfl⟩
    · right; rw [if_neg h1]
      by_cases h2 : a.k = 4 ∧ b.k = 3
      · left; rw [if_pos h2]; exact ⟨h2.1, h2.2, rfl⟩
      · right; rw [if_neg h2]
        by_cases h3 : a.k = 4 ∧ b.k = 4
        · left
          have hj := tyJ_ref hv (ok_ref ha h3.1).2 (ok_ref hb h3.2).2
          have hz : tyE (tyJ L a.ty b.ty) tyZ = false := by
            cases h : tyE (tyJ L a.ty b.ty) tyZ with
            | false => rfl
            | true => rw [tyE_eq h, ref_z] at hj; cases hj
          rw [if_pos ⟨h3.1, h3.2, hz⟩]
          exact ⟨he, h3.1, h3.2, rfl⟩
        · right
          rw [if_neg (fun h => h3 ⟨h.1, h.2.1⟩)]
          exact ⟨he, h1, h2, h3, rfl⟩
theorem vtJ_ok {L : List CI} (hv : VH L) {a b : VT} (ha : a.ok = true) (hb : b.ok = true) : (vtJ L a b).ok = true := by
  rcases vtJ_cases hv ha hb with ⟨_, h⟩ | ⟨_, _, h⟩ | ⟨_, _, h⟩ | ⟨_, h1, h2, h⟩ | ⟨_, _, _, _, h⟩
  · rw [h]; exact ha
  · rw [h]; exact hb
  · rw [h]; exact ha
  · rw [h]; exact ref_ok (tyJ_ref hv (ok_ref ha h1).2 (ok_ref hb h2).2)
  · rw [h]; exact ok_z
theorem vtJ_up {L : List CI} (hv : VH L) {a b : VT} (ha : a.ok = true) (hb : b.ok = true) : asB L a (vtJ L a b) = true ∧ asB L b (vtJ L a b) = true := by
  have hj := vtJ_ok hv ha hb
  rw [as_iff ha hj, as_iff hb hj]
  rcases vtJ_cases hv ha hb with ⟨e, h⟩ | ⟨h1, h2, h⟩ | ⟨h1, h2, h⟩ | ⟨_, h1, h2, h⟩ | ⟨_, _, _, _, h⟩
  · rw [h]; exact ⟨Or.inr (Or.inl rfl), Or.inr (Or.inl e.symm)⟩
  · rw [h]; exact ⟨Or.inr (Or.inr ⟨h2, Or.inl h1⟩), Or.inr (Or.inl rfl)⟩
  · rw [h]; exact ⟨Or.inr (Or.inl rfl), Or.inr (Or.inr ⟨h1, Or.inl h2⟩)⟩
  · rw [h]
    obtain ⟨t1, t2⟩ := ta_up hv (ok_ref ha h1).2 (ok_ref hb h2).2
    exact ⟨Or.inr (Or.inr ⟨rfl, Or.inr ⟨h1, t1⟩⟩), Or.inr (Or.inr ⟨rfl, Or.inr ⟨h2, t2⟩⟩)⟩
  · rw [h]; exact ⟨Or.inl rfl, Or.inl rfl⟩
theorem vtJ_comm {L : List CI} (hv : VH L) {a b : VT} (ha : a.ok = true) (hb : b.ok = true) : vtJ L a b = vtJ L b a := by
  rcases vtJ_cases hv ha hb with ⟨e, h⟩ | ⟨h1, h2, h⟩ | ⟨h1, h2, h⟩ | ⟨e, h1, h2, h⟩ | ⟨e, h1, h2, h3, h⟩
  · rw [e]
  all_goals rcases vtJ_cases hv hb ha with ⟨e', k⟩ | ⟨k1, k2, k⟩ | ⟨k1, k2, k⟩ | ⟨e', k1, k2, k⟩ | ⟨e', k1, k2, k3, k⟩
  all_goals rw [h, k]
  all_goals first
    | (exfalso; omega)
    | exact e'
    | exact e'.symm
    | (exfalso; subst e'; omega)
    | (exact absurd e'.symm e)
    | rfl
    | (exact absurd ⟨h2, h1⟩ k2)
    | (exact absurd ⟨h2, h1⟩ k1)
    | (exact absurd ⟨h2, h1⟩ k3)
    | (exact absurd ⟨k2, k1⟩ h1)
    | (exact absurd ⟨k2, k1⟩ h2)
    | (exact absurd ⟨k2, k1⟩ h3)
    | (rw [tyJ_comm hv (ok_ref ha h1).2 (ok_ref hb h2).2])
theorem vtJ_absorb {L : List CI} (hv : VH L) {a b : VT} (ha : a.ok = true) (hb : b.ok = true) : vtJ L (vtJ L a b) b = vtJ L a b := by
  have self : ∀ x : VT, vtJ L x x = x := fun x => by unfold vtJ; rw [if_pos (vtE_self _)]
  have hj := vtJ_ok hv ha hb
  rcases vtJ_cases hv ha hb with ⟨e, h⟩ | ⟨h1, h2, h⟩ | ⟨h1, h2, h⟩ | ⟨e, h1, h2, h⟩ | ⟨e, h1, h2, h3, h⟩
  · rw [h, h]
  · rw [h, self]
  · rw [h, h]
  · have ra := (ok_ref ha h1).2
    have rb := (ok_ref hb h2).2
    rw [h] at hj ⊢
    rcases vtJ_cases hv hj hb with ⟨_, k⟩ | ⟨k1, _, _⟩ | ⟨_, k2, _⟩ | ⟨_, _, _, k⟩ | ⟨_, _, _, k3, _⟩
    · exact k
    · cases k1
    · omega
    · rw [k]
      show VT.mk 4 0 (tyJ L (tyJ L a.ty b.ty) b.ty).d (tyJ L (tyJ L a.ty b.ty) b.ty).b (tyJ L (tyJ L a.ty b.ty) b.ty).s 0 = _
      rw [tyJ_absorb hv ra rb]
    · exact absurd ⟨rfl, h2⟩ k3
  · rw [h] at hj ⊢
    rcases vtJ_cases hv hj hb with ⟨_, k⟩ | ⟨k1, _, _⟩ | ⟨k1, _, _⟩ | ⟨_, k1, _, _⟩ | ⟨_, _, _, _, k⟩
    · exact k
    · cases k1
    · cases k1
    · cases k1
    · exact k
theorem vtJ_lub {L : List CI} (hv : VH L) {a b c : VT} (ha : a.ok = true) (hb : b.ok = true) (hc : c.ok = true) (h1 : asB L a c = true) (h2 : asB L b c = true) : asB L (vtJ L a b) c = true := by
  have hj := vtJ_ok hv ha hb
  have e1 := (as_iff ha hc).1 h1
  have e2 := (as_iff hb hc).1 h2
  rcases vtJ_cases hv ha hb with ⟨e, h⟩ | ⟨_, _, h⟩ | ⟨_, _, h⟩ | ⟨e, k1, k2, h⟩ | ⟨e, n1, n2, n3, h⟩
  · rw [h]; exact h1
  · rw [h]; exact h2
  · rw [h]; exact h1
  · by_cases h0 : c.k = 0
    · exact (as_iff hj hc).2 (Or.inl h0)
    · have hc4 : c.k = 4 := by
        rcases e1 with e1 | e1 | ⟨e1, _⟩
        · exact absurd e1 h0
        · rw [← e1]; exact k1
        · exact e1
      have ra := (ok_ref ha k1).2
      have rb := (ok_ref hb k2).2
      have rc := (ok_ref hc hc4).2
      have t1 : taB L a.ty c.ty = true := by
        rcases e1 with e1 | e1 | ⟨_, e1 | ⟨_, e1⟩⟩
        · exact absurd e1 h0
        · exact (ta_iff ra rc).2 (Or.inl (by rw [e1]))
        · omega
        · exact e1
      have t2 : taB L b.ty c.ty = true := by
        rcases e2 with e2 | e2 | ⟨_, e2 | ⟨_, e2⟩⟩
        · exact absurd e2 h0
        · exact (ta_iff rb rc).2 (Or.inl (by rw [e2]))
        · omega
        · exact e2
      rw [h] at hj ⊢
      exact (as_iff hj hc).2 (Or.inr (Or.inr ⟨hc4, Or.inr ⟨rfl, ta_lub hv ra rb rc t1 t2⟩⟩))
  · rw [h]
    refine (as_iff ok_z hc).2 (Or.inl ?_)
    rcases e1 with e1 | e1 | ⟨c4, e1⟩
    · exact e1
    · rcases e2 with e2 | e2 | ⟨c4, e2⟩
      · exact e2
      · exact absurd (e1.trans e2.symm) e
      · rw [← e1] at c4
        rcases e2 with e2 | ⟨e2, _⟩
        · exact absurd ⟨c4, e2⟩ n2
        · exact absurd ⟨c4, e2⟩ n3
    · rcases e2 with e2 | e2 | ⟨_, e2⟩
      · exact e2
      · rw [← e2] at c4
        rcases e1 with e1 | ⟨e1, _⟩
        · exact absurd ⟨e1, c4⟩ n1
        · exact absurd ⟨e1, c4⟩ n3
      · rcases e1 with e1 | ⟨e1, _⟩
        · rcases e2 with e2 | ⟨e2, _⟩
          · exact absurd ((ok_nul ha e1).trans (ok_nul hb e2).symm) e
          · exact absurd ⟨e1, e2⟩ n1
        · rcases e2 with e2 | ⟨e2, _⟩
          · exact absurd ⟨e1, e2⟩ n2
          · exact absurd ⟨e1, e2⟩ n3
end Go.Proofs.YthifmcnemeiphaaDoor

/- Nf -/
/- Layer 18: the joins of frames, pure. -/
namespace Go.Proofs.YthifmcnemeiphaaDoor
open Go.ChangeShapes Go.WideShapes Go.ChangeAt Go.RowKit Go.PlainAid Go.Maps
set_option linter.unusedSimpArgs false
set_option linter.unusedVariables false

theorem jn_of {L : List CI} {P Q : List VT} {j : Nat} {v : VT} (h : (jnL L P Q)[j]? = some v) : ∃ a b, P[j]? = some a ∧ Q[j]? = some b ∧ v = vtJ L a b := by
  unfold jnL at h
  rw [List.getElem?_map] at h
  cases hz : (P.zip Q)[j]? with
  | none => rw [hz] at h; cases h
  | some x =>
    rw [hz] at h
    have := List.getElem?_zip_eq_some.1 hz
    exact ⟨x.1, x.2, this.1, this.2, (Option.some.inj h).symm⟩
theorem okV_mem {P : List VT} (h : okV P = true) {j : Nat} {v : VT} (hv : P[j]? = some v) : v.ok = true := List.all_eq_true.1 h v (List.mem_of_getElem? hv)
theorem jn_okV {L : List CI} (hv : VH L) {P Q : List VT} (hp : okV P = true) (hq : okV Q = true) : okV (jnL L P Q) = true :=
  okV_all fun j v h => by
    obtain ⟨a, b, ha, hb, rfl⟩ := jn_of h
    exact vtJ_ok hv (okV_mem hp ha) (okV_mem hq hb)
theorem all_up1 {L : List CI} (hv : VH L) {P Q : List VT} (hl : P.length = Q.length) (hp : okV P = true) (hq : okV Q = true) : allB (asB L) P (jnL L P Q) = true :=
  allB_yes ⟨by rw [jn_len rfl hl.symm], fun j a v ha h => by
    obtain ⟨a', b, ha', hb, rfl⟩ := jn_of h
    rw [ha] at ha'
    obtain rfl := Option.some.inj ha'
    exact (vtJ_up hv (okV_mem hp ha) (okV_mem hq hb)).1⟩
theorem all_up2 {L : List CI} (hv : VH L) {P Q : List VT} (hl : P.length = Q.length) (hp : okV P = true) (hq : okV Q = true) : allB (asB L) Q (jnL L P Q) = true :=
  allB_yes ⟨by rw [jn_len hl rfl], fun j a v ha h => by
    obtain ⟨b, a', hb, ha', rfl⟩ := jn_of h
    rw [ha] at ha'
    obtain rfl := Option.some.inj ha'
    exact (vtJ_up hv (okV_mem hp hb) (okV_mem hq ha)).2⟩
theorem all_ext {P Q : List VT} (hl : P.length = Q.length) (h : ∀ (j : Nat) (a b : VT), P[j]? = some a → Q[j]? = some b → a = b) : P = Q := by
  apply List.ext_getElem hl
  intro j h1 h2
  exact h j _ _ (List.getElem?_eq_getElem h1) (List.getElem?_eq_getElem h2)
theorem jn_comm {L : List CI} (hv : VH L) {P Q : List VT} (hl : P.length = Q.length) (hp : okV P = true) (hq : okV Q = true) : jnL L P Q = jnL L Q P := by
  refine all_ext (by rw [jn_len rfl hl.symm, jn_len hl.symm rfl]) fun j v u h1 h2 => ?_
  obtain ⟨a, b, ha, hb, rfl⟩ := jn_of h1
  obtain ⟨b', a', hb', ha', rfl⟩ := jn_of h2
  rw [ha] at ha'; rw [hb] at hb'
  obtain rfl := Option.some.inj ha'
  obtain rfl := Option.some.inj hb'
  exact vtJ_comm hv (okV_mem hp ha) (okV_mem hq hb)
theorem jn_absorb {L : List CI} (hv : VH L) {P Q : List VT} (hl : P.length = Q.length) (hp : okV P = true) (hq : okV Q = true) : jnL L (jnL L P Q) Q = jnL L P Q := by
  have hlj : (jnL L P Q).length = Q.length := jn_len hl rfl
  refine all_ext (by rw [jn_len hlj rfl, hlj]) fun j v u h1 h2 => ?_
  obtain ⟨c, b, hc, hb, rfl⟩ := jn_of h1
  rw [h2] at hc
  obtain rfl := Option.some.inj hc
  obtain ⟨a, b', ha, hb', rfl⟩ := jn_of h2
  rw [hb] at hb'
  obtain rfl := Option.some.inj hb'
  exact vtJ_absorb hv (okV_mem hp ha) (okV_mem hq hb)
theorem all_lub {L : List CI} (hv : VH L) {P Q R : List VT} (hl : P.length = Q.length) (hp : okV P = true) (hq : okV Q = true) (hr : okV R = true) (h1 : allB (asB L) P R = true) (h2 : allB (asB L) Q R = true) : allB (asB L) (jnL L P Q) R = true := by
  have e1 := allB_iff.1 h1
  have e2 := allB_iff.1 h2
  refine allB_yes ⟨by rw [jn_len rfl hl.symm, e1.1], fun j v c h hc => ?_⟩
  obtain ⟨a, b, ha, hb, rfl⟩ := jn_of h
  exact vtJ_lub hv (okV_mem hp ha) (okV_mem hq hb) (okV_mem hr hc) (e1.2 j a c ha hc) (e2.2 j b c hb hc)
theorem rgM_iff {f : FM} : rgM f = true ↔ okV f.P = true ∧ okV f.Q = true := by unfold rgM; rw [Bool.and_eq_true]
theorem shape_len {f g : FM} {w : World} (hf : f.ok w) (hg : g.ok w) (h : shape f g) : f.P.length = g.P.length ∧ f.Q.length = g.Q.length := ⟨by rw [hf.lp, hg.lp, h.1], by rw [hf.lq, hg.lq, h.2]⟩
theorem frame_up {L : List CI} (hv : VH L) {f g h : FM} (hl : f.P.length = g.P.length ∧ f.Q.length = g.Q.length) (hf : rgM f = true) (hg : rgM g = true) (hj : isJn L f g h) : asM L f h = true ∧ asM L g h = true ∧ rgM h = true := by
  obtain ⟨f1, f2⟩ := rgM_iff.1 hf
  obtain ⟨g1, g2⟩ := rgM_iff.1 hg
  unfold asM
  rw [hj.1, hj.2.1, hj.2.2.1, all_up1 hv hl.1 f1 g1, all_up1 hv hl.2 f2 g2, all_up2 hv hl.1 f1 g1, all_up2 hv hl.2 f2 g2]
  refine ⟨by cases f.u <;> simp, by cases g.u <;> simp, rgM_iff.2 ⟨?_, ?_⟩⟩
  · rw [hj.1]; exact jn_okV hv f1 g1
  · rw [hj.2.1]; exact jn_okV hv f2 g2
theorem frame_comm {L : List CI} (hv : VH L) {f g h k : FM} (hl : f.P.length = g.P.length ∧ f.Q.length = g.Q.length) (hf : rgM f = true) (hg : rgM g = true) (h1 : isJn L f g h) (h2 : isJn L g f k) : eqM h k = true := by
  obtain ⟨f1, f2⟩ := rgM_iff.1 hf
  obtain ⟨g1, g2⟩ := rgM_iff.1 hg
  unfold eqM
  rw [h1.1, h2.1, h1.2.1, h2.2.1, h1.2.2.1, h2.2.2.1, jn_comm hv hl.1 f1 g1, jn_comm hv hl.2 f2 g2, all_self, all_self, Bool.or_comm]; simp
theorem frame_absorb {L : List CI} (hv : VH L) {f g h k : FM} (hl : f.P.length = g.P.length ∧ f.Q.length = g.Q.length) (hf : rgM f = true) (hg : rgM g = true) (h1 : isJn L f g h) (h2 : isJn L h g k) : eqM k h = true := by
  obtain ⟨f1, f2⟩ := rgM_iff.1 hf
  obtain ⟨g1, g2⟩ := rgM_iff.1 hg
  unfold eqM
  rw [h2.1, h2.2.1, h2.2.2.1, h1.1, h1.2.1, h1.2.2.1, jn_absorb hv hl.1 f1 g1, jn_absorb hv hl.2 f2 g2, all_self, all_self]
  cases f.u <;> cases g.u <;> simp
theorem frame_lub {L : List CI} (hv : VH L) {f g c h : FM} (hl : f.P.length = g.P.length ∧ f.Q.length = g.Q.length) (hf : rgM f = true) (hg : rgM g = true) (hc : rgM c = true) (hj : isJn L f g h) (h1 : asM L f c = true) (h2 : asM L g c = true) : asM L h c = true := by
  obtain ⟨f1, f2⟩ := rgM_iff.1 hf
  obtain ⟨g1, g2⟩ := rgM_iff.1 hg
  obtain ⟨c1, c2⟩ := rgM_iff.1 hc
  unfold asM at h1 h2 ⊢
  rw [Bool.and_eq_true, Bool.and_eq_true] at h1 h2
  rw [hj.1, hj.2.1, hj.2.2.1, all_lub hv hl.1 f1 g1 c1 h1.1.1 h2.1.1, all_lub hv hl.2 f2 g2 c2 h1.1.2 h2.1.2]
  have a1 := h1.2
  have a2 := h2.2
  revert a1 a2
  cases f.u <;> cases g.u <;> cases c.u <;> simp
theorem shape_of_as {L : List CI} {f g c : FM} {w : World} (hf : f.ok w) (hg : g.ok w) (h1 : asM L f c = true) (h2 : asM L g c = true) : shape f g := by
  unfold asM at h1 h2
  rw [Bool.and_eq_true, Bool.and_eq_true] at h1 h2
  have e1 := (allB_iff.1 h1.1.1).1
  have e2 := (allB_iff.1 h1.1.2).1
  have e3 := (allB_iff.1 h2.1.1).1
  have e4 := (allB_iff.1 h2.1.2).1
  rw [hf.lp] at e1; rw [hf.lq] at e2; rw [hg.lp] at e3; rw [hg.lq] at e4
  exact ⟨e1.trans e3.symm, e2.trans e4.symm⟩
theorem shape_jn {L : List CI} {f g h : FM} (hj : isJn L f g h) (hs : shape f g) : shape h g := ⟨hj.2.2.2.1.trans hs.1, hj.2.2.2.2.trans hs.2⟩
theorem shape_sym {f g : FM} (hs : shape f g) : shape g f := ⟨hs.1.symm, hs.2.symm⟩
end Go.Proofs.YthifmcnemeiphaaDoor

/- Ni -/
/- Layer 18: MergeLeastUpperBound (written by gen/ng.py). -/
namespace Go.Proofs.YthifmcnemeiphaaDoor
open Go.ChangeShapes Go.WideShapes Go.ChangeAt Go.RowKit Go.PlainAid Go.Maps
set_option linter.unusedSimpArgs false
set_option linter.unusedVariables false

theorem set_three_other {w : World} {B g : Nat} {o : Option Obj} {a b c : Value} (h : w.heap[g]? = o) (hne : g ≠ B) : (((w.setCell ⟨B, 0, none⟩ a).setCell ⟨B, 1, none⟩ b).setCell ⟨B, 2, none⟩ c).heap[g]? = o :=
  (heap_setCell_other _ ⟨B, 2, none⟩ g c hne).trans ((heap_setCell_other _ ⟨B, 1, none⟩ g b hne).trans ((heap_setCell_other _ ⟨B, 0, none⟩ g a hne).trans h))
theorem below3 {w W : World} {B : Nat} (h : Below w.heap.size w W) (hB : w.heap.size ≤ B) (a b c : Value) : Below w.heap.size w (((W.setCell ⟨B, 0, none⟩ a).setCell ⟨B, 1, none⟩ b).setCell ⟨B, 2, none⟩ c) :=
  below_st (below_st (below_st h hB _) hB _) hB _
set_option maxRecDepth 100000 in
set_option maxHeartbeats 8000000 in
theorem mlub_law (A : Option Addr) (n c : Nat) (L : List CI) (f g t : FM) (w : World) (hn : L.length = n) (hcap : n ≤ c) (hcm : c ≤ 9223372036854775807) (hM : (names L).length ≤ 2000000) (h : CIs w w.heap.size A L) (hf : f.ok w) (hg : g.ok w) (ht : t.ok w) :
    Calls Tryd.prog 14 #[.slice A n c, .agg #[.slice f.A1 f.n1 f.c1, .slice f.A2 f.n2 f.c2, .bool f.u, .slice g.A1 g.n1 g.c1, .slice g.A2 g.n2 g.c2, .bool g.u], .agg #[.slice t.A1 t.n1 t.c1, .slice t.A2 t.n2 t.c2, .bool t.u]] w fun e w' => e = .returned (.bool true) ∧ Below w.heap.size w w' := by
  have HL := Lib.hid h
  have HN := Lib.hid hn
  have HF := Lib.hid hf
  have HG := Lib.hid hg
  have KF := Lib.hid (fun (W : World) (hW : Below w.heap.size w W) => smM_any A n c L f W hn hcap hcm hM (h.up hW))
  have KG := Lib.hid (fun (W : World) (hW : Below w.heap.size w W) => smM_any A n c L g W hn hcap hcm hM (h.up hW))
  have KRF := Lib.hid (fun (W : World) (hW : Below w.heap.size w W) => rgM_any f W (hf.up hW))
  have KRG := Lib.hid (fun (W : World) (hW : Below w.heap.size w W) => rgM_any g W (hg.up hW))
  have HS := Lib.hid (show smM (accB L) f = true → n ≤ 20 ∧ VH L ∧ f.n1 ≤ 40 ∧ f.n2 ≤ 40 from fun hh => by
    unfold smM at hh
    rw [Bool.and_eq_true, Bool.and_eq_true, decide_eq_true_iff, decide_eq_true_iff] at hh
    have ha := accB_iff.1 hh.1
    exact ⟨by rw [← hn]; exact ha.1, ha.2, hh.2.1, hh.2.2⟩)
  have HT := Lib.hid ht
  have KT := Lib.hid (fun (W : World) (hW : Below w.heap.size w W) => smM_any A n c L t W hn hcap hcm hM (h.up hW))
  have KRT := Lib.hid (fun (W : World) (hW : Below w.heap.size w W) => rgM_any t W (ht.up hW))
  obtain ⟨r3, e5⟩ : ∃ r, smM (accB L) t = r := ⟨_, rfl⟩
  obtain ⟨q3, e6⟩ : ∃ r, rgM t = r := ⟨_, rfl⟩
  obtain ⟨s1, e7⟩ : ∃ r, asM L f t = r := ⟨_, rfl⟩
  obtain ⟨s2, e8⟩ : ∃ r, asM L g t = r := ⟨_, rfl⟩
  have R3 := Lib.hid e6
  have S1 := Lib.hid e7
  have S2 := Lib.hid e8
  have KAF := Lib.hid (fun (W : World) (hW : Below w.heap.size w W) (h20 : n ≤ 1000000) => masM A n c L f t W hn h20 (h.up hW) (hf.up hW) (ht.up hW))
  have KAG := Lib.hid (fun (W : World) (hW : Below w.heap.size w W) (h20 : n ≤ 1000000) => masM A n c L g t W hn h20 (h.up hW) (hg.up hW) (ht.up hW))
  rw [e5] at KT
  rw [e6] at KRT
  rw [e7] at KAF
  rw [e8] at KAG
  obtain ⟨r1, e1⟩ : ∃ r, smM (accB L) f = r := ⟨_, rfl⟩
  obtain ⟨r2, e2⟩ : ∃ r, smM (accB L) g = r := ⟨_, rfl⟩
  obtain ⟨q1, e3⟩ : ∃ r, rgM f = r := ⟨_, rfl⟩
  obtain ⟨q2, e4⟩ : ∃ r, rgM g = r := ⟨_, rfl⟩
  have R1 := Lib.hid e3
  have R2 := Lib.hid e4
  rw [e1] at KF HS
  rw [e2] at KG
  rw [e3] at KRF
  rw [e4] at KRG
  clear h hn hf hg ht hM e1 e2 e3 e4 e5 e6 e7 e8
  go_enter Tryd.func14, Tryd.ntmps14
  go_upto_region 1 with fail
  obtain ⟨H4, H5, hB⟩ := two_laid w (.cells #[.slice f.A1 f.n1 f.c1, .slice f.A2 f.n2 f.c2, .bool f.u, .slice g.A1 g.n1 g.c1, .slice g.A2 g.n2 g.c2, .bool g.u] 63) (.cells #[.slice t.A1 t.n1 t.c1, .slice t.A2 t.n2 t.c2, .bool t.u] 56)
  generalize (w.alloc (.cells #[.slice f.A1 f.n1 f.c1, .slice f.A2 f.n2 f.c2, .bool f.u, .slice g.A1 g.n1 g.c1, .slice g.A2 g.n2 g.c2, .bool g.u] 63)).alloc (.cells #[.slice t.A1 t.n1 t.c1, .slice t.A2 t.n2 t.c2, .bool t.u] 56) = W at H4 H5 hB ⊢
  obtain ⟨x0, x1, x2, x3, x4, x5, fx⟩ := six_cells H4
  have hl4 := lt_heap H4
  have hl5 := lt_heap H5
  go_region
  · obtain ⟨H7, H8, hb2⟩ := two_laid W (.cells #[.slice f.A1 f.n1 f.c1, .slice f.A2 f.n2 f.c2, .bool f.u] 56) (.cells #[.slice g.A1 g.n1 g.c1, .slice g.A2 g.n2 g.c2, .bool g.u] 56)
    replace H7 : ((W.alloc (.cells #[.slice f.A1 f.n1 f.c1, .slice f.A2 f.n2 f.c2, .bool f.u] 56)).alloc (.cells #[.slice g.A1 g.n1 g.c1, .slice g.A2 g.n2 g.c2, .bool g.u] 56)).drew.heap[W.heap.size]? = some (.cells #[.slice f.A1 f.n1 f.c1, .slice f.A2 f.n2 f.c2, .bool f.u] 56) := H7
    replace H8 : ((W.alloc (.cells #[.slice f.A1 f.n1 f.c1, .slice f.A2 f.n2 f.c2, .bool f.u] 56)).alloc (.cells #[.slice g.A1 g.n1 g.c1, .slice g.A2 g.n2 g.c2, .bool g.u] 56)).drew.heap[W.heap.size + 1]? = some (.cells #[.slice g.A1 g.n1 g.c1, .slice g.A2 g.n2 g.c2, .bool g.u] 56) := H8
    replace H5 : ((W.alloc (.cells #[.slice f.A1 f.n1 f.c1, .slice f.A2 f.n2 f.c2, .bool f.u] 56)).alloc (.cells #[.slice g.A1 g.n1 g.c1, .slice g.A2 g.n2 g.c2, .bool g.u] 56)).drew.heap[w.heap.size + 1]? = _ := (hb2.block _ hl5).trans H5
    replace hB : Below w.heap.size w ((W.alloc (.cells #[.slice f.A1 f.n1 f.c1, .slice f.A2 f.n2 f.c2, .bool f.u] 56)).alloc (.cells #[.slice g.A1 g.n1 g.c1, .slice g.A2 g.n2 g.c2, .bool g.u] 56)).drew := (below_on hB hb2).drew
    clear hb2 H4 x0 x1 x2 x3 x4 x5 fx hl4 hl5
    generalize ((W.alloc (.cells #[.slice f.A1 f.n1 f.c1, .slice f.A2 f.n2 f.c2, .bool f.u] 56)).alloc (.cells #[.slice g.A1 g.n1 g.c1, .slice g.A2 g.n2 g.c2, .bool g.u] 56)).drew = W6 at H5 H7 H8 hB ⊢
    generalize W.heap.size + 1 = B8 at H8 ⊢
    generalize W.heap.size = B7 at H7 ⊢
    obtain ⟨xa0, xa1, xa2, fa0, fa1, fa2⟩ := three_cells H5; obtain ⟨xb0, xb1, xb2, fb0, fb1, fb2⟩ := three_cells H7; obtain ⟨xc0, xc1, xc2, fc0, fc1, fc2⟩ := three_cells H8
    cases r1 with
    | false =>
      go_wp2_with (first | (go_at_call 46; (with_reducible refine (KF.out _ hB).mono ?_); rintro e w1 ⟨rfl, hb1⟩; replace H5 := (hb1.block _ (lt_heap H5)).trans H5; replace H7 := (hb1.block _ (lt_heap H7)).trans H7; replace H8 := (hb1.block _ (lt_heap H8)).trans H8; replace hB := below_on hB hb1; clear hb1 xa0 fa0 xa1 fa1 xa2 fa2 xb0 fb0 xb1 fb1 xb2 fb2 xc0 fc0 xc1 fc1 xc2 fc2; obtain ⟨xa0, xa1, xa2, fa0, fa1, fa2⟩ := three_cells H5; obtain ⟨xb0, xb1, xb2, fb0, fb1, fb2⟩ := three_cells H7; obtain ⟨xc0, xc1, xc2, fc0, fc1, fc2⟩ := three_cells H8) | (go_at_call 46; (with_reducible refine (KG.out _ hB).mono ?_); rintro e w1 ⟨rfl, hb1⟩; replace H5 := (hb1.block _ (lt_heap H5)).trans H5; replace H7 := (hb1.block _ (lt_heap H7)).trans H7; replace H8 := (hb1.block _ (lt_heap H8)).trans H8; replace hB := below_on hB hb1; clear hb1 xa0 fa0 xa1 fa1 xa2 fa2 xb0 fb0 xb1 fb1 xb2 fb2 xc0 fc0 xc1 fc1 xc2 fc2; obtain ⟨xa0, xa1, xa2, fa0, fa1, fa2⟩ := three_cells H5; obtain ⟨xb0, xb1, xb2, fb0, fb1, fb2⟩ := three_cells H7; obtain ⟨xc0, xc1, xc2, fc0, fc1, fc2⟩ := three_cells H8) | (go_at_call 46; (with_reducible refine (KT.out _ hB).mono ?_); rintro e w1 ⟨rfl, hb1⟩; replace H5 := (hb1.block _ (lt_heap H5)).trans H5; replace H7 := (hb1.block _ (lt_heap H7)).trans H7; replace H8 := (hb1.block _ (lt_heap H8)).trans H8; replace hB := below_on hB hb1; clear hb1 xa0 fa0 xa1 fa1 xa2 fa2 xb0 fb0 xb1 fb1 xb2 fb2 xc0 fc0 xc1 fc1 xc2 fc2; obtain ⟨xa0, xa1, xa2, fa0, fa1, fa2⟩ := three_cells H5; obtain ⟨xb0, xb1, xb2, fb0, fb1, fb2⟩ := three_cells H7; obtain ⟨xc0, xc1, xc2, fc0, fc1, fc2⟩ := three_cells H8) | (go_at_call 53; (with_reducible refine (KRF.out _ hB).mono ?_); rintro e w1 ⟨rfl, hb1⟩; replace H5 := (hb1.block _ (lt_heap H5)).trans H5; replace H7 := (hb1.block _ (lt_heap H7)).trans H7; replace H8 := (hb1.block _ (lt_heap H8)).trans H8; replace hB := below_on hB hb1; clear hb1 xa0 fa0 xa1 fa1 xa2 fa2 xb0 fb0 xb1 fb1 xb2 fb2 xc0 fc0 xc1 fc1 xc2 fc2; obtain ⟨xa0, xa1, xa2, fa0, fa1, fa2⟩ := three_cells H5; obtain ⟨xb0, xb1, xb2, fb0, fb1, fb2⟩ := three_cells H7; obtain ⟨xc0, xc1, xc2, fc0, fc1, fc2⟩ := three_cells H8) | (go_at_call 53; (with_reducible refine (KRG.out _ hB).mono ?_); rintro e w1 ⟨rfl, hb1⟩; replace H5 := (hb1.block _ (lt_heap H5)).trans H5; replace H7 := (hb1.block _ (lt_heap H7)).trans H7; replace H8 := (hb1.block _ (lt_heap H8)).trans H8; replace hB := below_on hB hb1; clear hb1 xa0 fa0 xa1 fa1 xa2 fa2 xb0 fb0 xb1 fb1 xb2 fb2 xc0 fc0 xc1 fc1 xc2 fc2; obtain ⟨xa0, xa1, xa2, fa0, fa1, fa2⟩ := three_cells H5; obtain ⟨xb0, xb1, xb2, fb0, fb1, fb2⟩ := three_cells H7; obtain ⟨xc0, xc1, xc2, fc0, fc1, fc2⟩ := three_cells H8) | (go_at_call 53; (with_reducible refine (KRT.out _ hB).mono ?_); rintro e w1 ⟨rfl, hb1⟩; replace H5 := (hb1.block _ (lt_heap H5)).trans H5; replace H7 := (hb1.block _ (lt_heap H7)).trans H7; replace H8 := (hb1.block _ (lt_heap H8)).trans H8; replace hB := below_on hB hb1; clear hb1 xa0 fa0 xa1 fa1 xa2 fa2 xb0 fb0 xb1 fb1 xb2 fb2 xc0 fc0 xc1 fc1 xc2 fc2; obtain ⟨xa0, xa1, xa2, fa0, fa1, fa2⟩ := three_cells H5; obtain ⟨xb0, xb1, xb2, fb0, fb1, fb2⟩ := three_cells H7; obtain ⟨xc0, xc1, xc2, fc0, fc1, fc2⟩ := three_cells H8) | (go_at_call 50; (with_reducible refine (KAF.out _ hB (by assumption)).mono ?_); rintro e w1 ⟨rfl, hb1⟩; replace H5 := (hb1.block _ (lt_heap H5)).trans H5; replace H7 := (hb1.block _ (lt_heap H7)).trans H7; replace H8 := (hb1.block _ (lt_heap H8)).trans H8; replace hB := below_on hB hb1; clear hb1 xa0 fa0 xa1 fa1 xa2 fa2 xb0 fb0 xb1 fb1 xb2 fb2 xc0 fc0 xc1 fc1 xc2 fc2; obtain ⟨xa0, xa1, xa2, fa0, fa1, fa2⟩ := three_cells H5; obtain ⟨xb0, xb1, xb2, fb0, fb1, fb2⟩ := three_cells H7; obtain ⟨xc0, xc1, xc2, fc0, fc1, fc2⟩ := three_cells H8) | (go_at_call 50; (with_reducible refine (KAG.out _ hB (by assumption)).mono ?_); rintro e w1 ⟨rfl, hb1⟩; replace H5 := (hb1.block _ (lt_heap H5)).trans H5; replace H7 := (hb1.block _ (lt_heap H7)).trans H7; replace H8 := (hb1.block _ (lt_heap H8)).trans H8; replace hB := below_on hB hb1; clear hb1 xa0 fa0 xa1 fa1 xa2 fa2 xb0 fb0 xb1 fb1 xb2 fb2 xc0 fc0 xc1 fc1 xc2 fc2; obtain ⟨xa0, xa1, xa2, fa0, fa1, fa2⟩ := three_cells H5; obtain ⟨xb0, xb1, xb2, fb0, fb1, fb2⟩ := three_cells H7; obtain ⟨xc0, xc1, xc2, fc0, fc1, fc2⟩ := three_cells H8) | (go_at_call 41; (with_reducible refine (works18_any _).mono ?_); rintro e w1 ⟨rfl, hb1⟩; replace H5 := (hb1.block _ (lt_heap H5)).trans H5; replace H7 := (hb1.block _ (lt_heap H7)).trans H7; replace H8 := (hb1.block _ (lt_heap H8)).trans H8; replace hB := below_on hB hb1; clear hb1 xa0 fa0 xa1 fa1 xa2 fa2 xb0 fb0 xb1 fb1 xb2 fb2 xc0 fc0 xc1 fc1 xc2 fc2; obtain ⟨xa0, xa1, xa2, fa0, fa1, fa2⟩ := three_cells H5; obtain ⟨xb0, xb1, xb2, fb0, fb1, fb2⟩ := three_cells H7; obtain ⟨xc0, xc1, xc2, fc0, fc1, fc2⟩ := three_cells H8))
      go_ret
      exact ⟨rfl, hB⟩
    | true =>
      have hn20 : n ≤ 1000000 := by have := (HS.out rfl).1; omega
      cases r2 with
      | false =>
        go_wp2_with (first | (go_at_call 46; (with_reducible refine (KF.out _ hB).mono ?_); rintro e w1 ⟨rfl, hb1⟩; replace H5 := (hb1.block _ (lt_heap H5)).trans H5; replace H7 := (hb1.block _ (lt_heap H7)).trans H7; replace H8 := (hb1.block _ (lt_heap H8)).trans H8; replace hB := below_on hB hb1; clear hb1 xa0 fa0 xa1 fa1 xa2 fa2 xb0 fb0 xb1 fb1 xb2 fb2 xc0 fc0 xc1 fc1 xc2 fc2; obtain ⟨xa0, xa1, xa2, fa0, fa1, fa2⟩ := three_cells H5; obtain ⟨xb0, xb1, xb2, fb0, fb1, fb2⟩ := three_cells H7; obtain ⟨xc0, xc1, xc2, fc0, fc1, fc2⟩ := three_cells H8) | (go_at_call 46; (with_reducible refine (KG.out _ hB).mono ?_); rintro e w1 ⟨rfl, hb1⟩; replace H5 := (hb1.block _ (lt_heap H5)).trans H5; replace H7 := (hb1.block _ (lt_heap H7)).trans H7; replace H8 := (hb1.block _ (lt_heap H8)).trans H8; replace hB := below_on hB hb1; clear hb1 xa0 fa0 xa1 fa1 xa2 fa2 xb0 fb0 xb1 fb1 xb2 fb2 xc0 fc0 xc1 fc1 xc2 fc2; obtain ⟨xa0, xa1, xa2, fa0, fa1, fa2⟩ := three_cells H5; obtain ⟨xb0, xb1, xb2, fb0, fb1, fb2⟩ := three_cells H7; obtain ⟨xc0, xc1, xc2, fc0, fc1, fc2⟩ := three_cells H8) | (go_at_call 46; (with_reducible refine (KT.out _ hB).mono ?_); rintro e w1 ⟨rfl, hb1⟩; replace H5 := (hb1.block _ (lt_heap H5)).trans H5; replace H7 := (hb1.block _ (lt_heap H7)).trans H7; replace H8 := (hb1.block _ (lt_heap H8)).trans H8; replace hB := below_on hB hb1; clear hb1 xa0 fa0 xa1 fa1 xa2 fa2 xb0 fb0 xb1 fb1 xb2 fb2 xc0 fc0 xc1 fc1 xc2 fc2; obtain ⟨xa0, xa1, xa2, fa0, fa1, fa2⟩ := three_cells H5; obtain ⟨xb0, xb1, xb2, fb0, fb1, fb2⟩ := three_cells H7; obtain ⟨xc0, xc1, xc2, fc0, fc1, fc2⟩ := three_cells H8) | (go_at_call 53; (with_reducible refine (KRF.out _ hB).mono ?_); rintro e w1 ⟨rfl, hb1⟩; replace H5 := (hb1.block _ (lt_heap H5)).trans H5; replace H7 := (hb1.block _ (lt_heap H7)).trans H7; replace H8 := (hb1.block _ (lt_heap H8)).trans H8; replace hB := below_on hB hb1; clear hb1 xa0 fa0 xa1 fa1 xa2 fa2 xb0 fb0 xb1 fb1 xb2 fb2 xc0 fc0 xc1 fc1 xc2 fc2; obtain ⟨xa0, xa1, xa2, fa0, fa1, fa2⟩ := three_cells H5; obtain ⟨xb0, xb1, xb2, fb0, fb1, fb2⟩ := three_cells H7; obtain ⟨xc0, xc1, xc2, fc0, fc1, fc2⟩ := three_cells H8) | (go_at_call 53; (with_reducible refine (KRG.out _ hB).mono ?_); rintro e w1 ⟨rfl, hb1⟩; replace H5 := (hb1.block _ (lt_heap H5)).trans H5; replace H7 := (hb1.block _ (lt_heap H7)).trans H7; replace H8 := (hb1.block _ (lt_heap H8)).trans H8; replace hB := below_on hB hb1; clear hb1 xa0 fa0 xa1 fa1 xa2 fa2 xb0 fb0 xb1 fb1 xb2 fb2 xc0 fc0 xc1 fc1 xc2 fc2; obtain ⟨xa0, xa1, xa2, fa0, fa1, fa2⟩ := three_cells H5; obtain ⟨xb0, xb1, xb2, fb0, fb1, fb2⟩ := three_cells H7; obtain ⟨xc0, xc1, xc2, fc0, fc1, fc2⟩ := three_cells H8) | (go_at_call 53; (with_reducible refine (KRT.out _ hB).mono ?_); rintro e w1 ⟨rfl, hb1⟩; replace H5 := (hb1.block _ (lt_heap H5)).trans H5; replace H7 := (hb1.block _ (lt_heap H7)).trans H7; replace H8 := (hb1.block _ (lt_heap H8)).trans H8; replace hB := below_on hB hb1; clear hb1 xa0 fa0 xa1 fa1 xa2 fa2 xb0 fb0 xb1 fb1 xb2 fb2 xc0 fc0 xc1 fc1 xc2 fc2; obtain ⟨xa0, xa1, xa2, fa0, fa1, fa2⟩ := three_cells H5; obtain ⟨xb0, xb1, xb2, fb0, fb1, fb2⟩ := three_cells H7; obtain ⟨xc0, xc1, xc2, fc0, fc1, fc2⟩ := three_cells H8) | (go_at_call 50; (with_reducible refine (KAF.out _ hB hn20).mono ?_); rintro e w1 ⟨rfl, hb1⟩; replace H5 := (hb1.block _ (lt_heap H5)).trans H5; replace H7 := (hb1.block _ (lt_heap H7)).trans H7; replace H8 := (hb1.block _ (lt_heap H8)).trans H8; replace hB := below_on hB hb1; clear hb1 xa0 fa0 xa1 fa1 xa2 fa2 xb0 fb0 xb1 fb1 xb2 fb2 xc0 fc0 xc1 fc1 xc2 fc2; obtain ⟨xa0, xa1, xa2, fa0, fa1, fa2⟩ := three_cells H5; obtain ⟨xb0, xb1, xb2, fb0, fb1, fb2⟩ := three_cells H7; obtain ⟨xc0, xc1, xc2, fc0, fc1, fc2⟩ := three_cells H8) | (go_at_call 50; (with_reducible refine (KAG.out _ hB hn20).mono ?_); rintro e w1 ⟨rfl, hb1⟩; replace H5 := (hb1.block _ (lt_heap H5)).trans H5; replace H7 := (hb1.block _ (lt_heap H7)).trans H7; replace H8 := (hb1.block _ (lt_heap H8)).trans H8; replace hB := below_on hB hb1; clear hb1 xa0 fa0 xa1 fa1 xa2 fa2 xb0 fb0 xb1 fb1 xb2 fb2 xc0 fc0 xc1 fc1 xc2 fc2; obtain ⟨xa0, xa1, xa2, fa0, fa1, fa2⟩ := three_cells H5; obtain ⟨xb0, xb1, xb2, fb0, fb1, fb2⟩ := three_cells H7; obtain ⟨xc0, xc1, xc2, fc0, fc1, fc2⟩ := three_cells H8) | (go_at_call 41; (with_reducible refine (works18_any _).mono ?_); rintro e w1 ⟨rfl, hb1⟩; replace H5 := (hb1.block _ (lt_heap H5)).trans H5; replace H7 := (hb1.block _ (lt_heap H7)).trans H7; replace H8 := (hb1.block _ (lt_heap H8)).trans H8; replace hB := below_on hB hb1; clear hb1 xa0 fa0 xa1 fa1 xa2 fa2 xb0 fb0 xb1 fb1 xb2 fb2 xc0 fc0 xc1 fc1 xc2 fc2; obtain ⟨xa0, xa1, xa2, fa0, fa1, fa2⟩ := three_cells H5; obtain ⟨xb0, xb1, xb2, fb0, fb1, fb2⟩ := three_cells H7; obtain ⟨xc0, xc1, xc2, fc0, fc1, fc2⟩ := three_cells H8))
        go_ret
        exact ⟨rfl, hB⟩
      | true =>
        cases r3 with
        | false =>
          go_wp2_with (first | (go_at_call 46; (with_reducible refine (KF.out _ hB).mono ?_); rintro e w1 ⟨rfl, hb1⟩; replace H5 := (hb1.block _ (lt_heap H5)).trans H5; replace H7 := (hb1.block _ (lt_heap H7)).trans H7; replace H8 := (hb1.block _ (lt_heap H8)).trans H8; replace hB := below_on hB hb1; clear hb1 xa0 fa0 xa1 fa1 xa2 fa2 xb0 fb0 xb1 fb1 xb2 fb2 xc0 fc0 xc1 fc1 xc2 fc2; obtain ⟨xa0, xa1, xa2, fa0, fa1, fa2⟩ := three_cells H5; obtain ⟨xb0, xb1, xb2, fb0, fb1, fb2⟩ := three_cells H7; obtain ⟨xc0, xc1, xc2, fc0, fc1, fc2⟩ := three_cells H8) | (go_at_call 46; (with_reducible refine (KG.out _ hB).mono ?_); rintro e w1 ⟨rfl, hb1⟩; replace H5 := (hb1.block _ (lt_heap H5)).trans H5; replace H7 := (hb1.block _ (lt_heap H7)).trans H7; replace H8 := (hb1.block _ (lt_heap H8)).trans H8; replace hB := below_on hB hb1; clear hb1 xa0 fa0 xa1 fa1 xa2 fa2 xb0 fb0 xb1 fb1 xb2 fb2 xc0 fc0 xc1 fc1 xc2 fc2; obtain ⟨xa0, xa1, xa2, fa0, fa1, fa2⟩ := three_cells H5; obtain ⟨xb0, xb1, xb2, fb0, fb1, fb2⟩ := three_cells H7; obtain ⟨xc0, xc1, xc2, fc0, fc1, fc2⟩ := three_cells H8) | (go_at_call 46; (with_reducible refine (KT.out _ hB).mono ?_); rintro e w1 ⟨rfl, hb1⟩; replace H5 := (hb1.block _ (lt_heap H5)).trans H5; replace H7 := (hb1.block _ (lt_heap H7)).trans H7; replace H8 := (hb1.block _ (lt_heap H8)).trans H8; replace hB := below_on hB hb1; clear hb1 xa0 fa0 xa1 fa1 xa2 fa2 xb0 fb0 xb1 fb1 xb2 fb2 xc0 fc0 xc1 fc1 xc2 fc2; obtain ⟨xa0, xa1, xa2, fa0, fa1, fa2⟩ := three_cells H5; obtain ⟨xb0, xb1, xb2, fb0, fb1, fb2⟩ := three_cells H7; obtain ⟨xc0, xc1, xc2, fc0, fc1, fc2⟩ := three_cells H8) | (go_at_call 53; (with_reducible refine (KRF.out _ hB).mono ?_); rintro e w1 ⟨rfl, hb1⟩; replace H5 := (hb1.block _ (lt_heap H5)).trans H5; replace H7 := (hb1.block _ (lt_heap H7)).trans H7; replace H8 := (hb1.block _ (lt_heap H8)).trans H8; replace hB := below_on hB hb1; clear hb1 xa0 fa0 xa1 fa1 xa2 fa2 xb0 fb0 xb1 fb1 xb2 fb2 xc0 fc0 xc1 fc1 xc2 fc2; obtain ⟨xa0, xa1, xa2, fa0, fa1, fa2⟩ := three_cells H5; obtain ⟨xb0, xb1, xb2, fb0, fb1, fb2⟩ := three_cells H7; obtain ⟨xc0, xc1, xc2, fc0, fc1, fc2⟩ := three_cells H8) | (go_at_call 53; (with_reducible refine (KRG.out _ hB).mono ?_); rintro e w1 ⟨rfl, hb1⟩; replace H5 := (hb1.block _ (lt_heap H5)).trans H5; replace H7 := (hb1.block _ (lt_heap H7)).trans H7; replace H8 := (hb1.block _ (lt_heap H8)).trans H8; replace hB := below_on hB hb1; clear hb1 xa0 fa0 xa1 fa1 xa2 fa2 xb0 fb0 xb1 fb1 xb2 fb2 xc0 fc0 xc1 fc1 xc2 fc2; obtain ⟨xa0, xa1, xa2, fa0, fa1, fa2⟩ := three_cells H5; obtain ⟨xb0, xb1, xb2, fb0, fb1, fb2⟩ := three_cells H7; obtain ⟨xc0, xc1, xc2, fc0, fc1, fc2⟩ := three_cells H8) | (go_at_call 53; (with_reducible refine (KRT.out _ hB).mono ?_); rintro e w1 ⟨rfl, hb1⟩; replace H5 := (hb1.block _ (lt_heap H5)).trans H5; replace H7 := (hb1.block _ (lt_heap H7)).trans H7; replace H8 := (hb1.block _ (lt_heap H8)).trans H8; replace hB := below_on hB hb1; clear hb1 xa0 fa0 xa1 fa1 xa2 fa2 xb0 fb0 xb1 fb1 xb2 fb2 xc0 fc0 xc1 fc1 xc2 fc2; obtain ⟨xa0, xa1, xa2, fa0, fa1, fa2⟩ := three_cells H5; obtain ⟨xb0, xb1, xb2, fb0, fb1, fb2⟩ := three_cells H7; obtain ⟨xc0, xc1, xc2, fc0, fc1, fc2⟩ := three_cells H8) | (go_at_call 50; (with_reducible refine (KAF.out _ hB hn20).mono ?_); rintro e w1 ⟨rfl, hb1⟩; replace H5 := (hb1.block _ (lt_heap H5)).trans H5; replace H7 := (hb1.block _ (lt_heap H7)).trans H7; replace H8 := (hb1.block _ (lt_heap H8)).trans H8; replace hB := below_on hB hb1; clear hb1 xa0 fa0 xa1 fa1 xa2 fa2 xb0 fb0 xb1 fb1 xb2 fb2 xc0 fc0 xc1 fc1 xc2 fc2; obtain ⟨xa0, xa1, xa2, fa0, fa1, fa2⟩ := three_cells H5; obtain ⟨xb0, xb1, xb2, fb0, fb1, fb2⟩ := three_cells H7; obtain ⟨xc0, xc1, xc2, fc0, fc1, fc2⟩ := three_cells H8) | (go_at_call 50; (with_reducible refine (KAG.out _ hB hn20).mono ?_); rintro e w1 ⟨rfl, hb1⟩; replace H5 := (hb1.block _ (lt_heap H5)).trans H5; replace H7 := (hb1.block _ (lt_heap H7)).trans H7; replace H8 := (hb1.block _ (lt_heap H8)).trans H8; replace hB := below_on hB hb1; clear hb1 xa0 fa0 xa1 fa1 xa2 fa2 xb0 fb0 xb1 fb1 xb2 fb2 xc0 fc0 xc1 fc1 xc2 fc2; obtain ⟨xa0, xa1, xa2, fa0, fa1, fa2⟩ := three_cells H5; obtain ⟨xb0, xb1, xb2, fb0, fb1, fb2⟩ := three_cells H7; obtain ⟨xc0, xc1, xc2, fc0, fc1, fc2⟩ := three_cells H8) | (go_at_call 41; (with_reducible refine (works18_any _).mono ?_); rintro e w1 ⟨rfl, hb1⟩; replace H5 := (hb1.block _ (lt_heap H5)).trans H5; replace H7 := (hb1.block _ (lt_heap H7)).trans H7; replace H8 := (hb1.block _ (lt_heap H8)).trans H8; replace hB := below_on hB hb1; clear hb1 xa0 fa0 xa1 fa1 xa2 fa2 xb0 fb0 xb1 fb1 xb2 fb2 xc0 fc0 xc1 fc1 xc2 fc2; obtain ⟨xa0, xa1, xa2, fa0, fa1, fa2⟩ := three_cells H5; obtain ⟨xb0, xb1, xb2, fb0, fb1, fb2⟩ := three_cells H7; obtain ⟨xc0, xc1, xc2, fc0, fc1, fc2⟩ := three_cells H8))
          go_ret
          exact ⟨rfl, hB⟩
        | true =>
          cases q1 with
          | false =>
            go_wp2_with (first | (go_at_call 46; (with_reducible refine (KF.out _ hB).mono ?_); rintro e w1 ⟨rfl, hb1⟩; replace H5 := (hb1.block _ (lt_heap H5)).trans H5; replace H7 := (hb1.block _ (lt_heap H7)).trans H7; replace H8 := (hb1.block _ (lt_heap H8)).trans H8; replace hB := below_on hB hb1; clear hb1 xa0 fa0 xa1 fa1 xa2 fa2 xb0 fb0 xb1 fb1 xb2 fb2 xc0 fc0 xc1 fc1 xc2 fc2; obtain ⟨xa0, xa1, xa2, fa0, fa1, fa2⟩ := three_cells H5; obtain ⟨xb0, xb1, xb2, fb0, fb1, fb2⟩ := three_cells H7; obtain ⟨xc0, xc1, xc2, fc0, fc1, fc2⟩ := three_cells H8) | (go_at_call 46; (with_reducible refine (KG.out _ hB).mono ?_); rintro e w1 ⟨rfl, hb1⟩; replace H5 := (hb1.block _ (lt_heap H5)).trans H5; replace H7 := (hb1.block _ (lt_heap H7)).trans H7; replace H8 := (hb1.block _ (lt_heap H8)).trans H8; replace hB := below_on hB hb1; clear hb1 xa0 fa0 xa1 fa1 xa2 fa2 xb0 fb0 xb1 fb1 xb2 fb2 xc0 fc0 xc1 fc1 xc2 fc2; obtain ⟨xa0, xa1, xa2, fa0, fa1, fa2⟩ := three_cells H5; obtain ⟨xb0, xb1, xb2, fb0, fb1, fb2⟩ := three_cells H7; obtain ⟨xc0, xc1, xc2, fc0, fc1, fc2⟩ := three_cells H8) | (go_at_call 46; (with_reducible refine (KT.out _ hB).mono ?_); rintro e w1 ⟨rfl, hb1⟩; replace H5 := (hb1.block _ (lt_heap H5)).trans H5; replace H7 := (hb1.block _ (lt_heap H7)).trans H7; replace H8 := (hb1.block _ (lt_heap H8)).trans H8; replace hB := below_on hB hb1; clear hb1 xa0 fa0 xa1 fa1 xa2 fa2 xb0 fb0 xb1 fb1 xb2 fb2 xc0 fc0 xc1 fc1 xc2 fc2; obtain ⟨xa0, xa1, xa2, fa0, fa1, fa2⟩ := three_cells H5; obtain ⟨xb0, xb1, xb2, fb0, fb1, fb2⟩ := three_cells H7; obtain ⟨xc0, xc1, xc2, fc0, fc1, fc2⟩ := three_cells H8) | (go_at_call 53; (with_reducible refine (KRF.out _ hB).mono ?_); rintro e w1 ⟨rfl, hb1⟩; replace H5 := (hb1.block _ (lt_heap H5)).trans H5; replace H7 := (hb1.block _ (lt_heap H7)).trans H7; replace H8 := (hb1.block _ (lt_heap H8)).trans H8; replace hB := below_on hB hb1; clear hb1 xa0 fa0 xa1 fa1 xa2 fa2 xb0 fb0 xb1 fb1 xb2 fb2 xc0 fc0 xc1 fc1 xc2 fc2; obtain ⟨xa0, xa1, xa2, fa0, fa1, fa2⟩ := three_cells H5; obtain ⟨xb0, xb1, xb2, fb0, fb1, fb2⟩ := three_cells H7; obtain ⟨xc0, xc1, xc2, fc0, fc1, fc2⟩ := three_cells H8) | (go_at_call 53; (with_reducible refine (KRG.out _ hB).mono ?_); rintro e w1 ⟨rfl, hb1⟩; replace H5 := (hb1.block _ (lt_heap H5)).trans H5; replace H7 := (hb1.block _ (lt_heap H7)).trans H7; replace H8 := (hb1.block _ (lt_heap H8)).trans H8; replace hB := below_on hB hb1; clear hb1 xa0 fa0 xa1 fa1 xa2 fa2 xb0 fb0 xb1 fb1 xb2 fb2 xc0 fc0 xc1 fc1 xc2 fc2; obtain ⟨xa0, xa1, xa2, fa0, fa1, fa2⟩ := three_cells H5; obtain ⟨xb0, xb1, xb2, fb0, fb1, fb2⟩ := three_cells H7; obtain ⟨xc0, xc1, xc2, fc0, fc1, fc2⟩ := three_cells H8) | (go_at_call 53; (with_reducible refine (KRT.out _ hB).mono ?_); rintro e w1 ⟨rfl, hb1⟩; replace H5 := (hb1.block _ (lt_heap H5)).trans H5; replace H7 := (hb1.block _ (lt_heap H7)).trans H7; replace H8 := (hb1.block _ (lt_heap H8)).trans H8; replace hB := below_on hB hb1; clear hb1 xa0 fa0 xa1 fa1 xa2 fa2 xb0 fb0 xb1 fb1 xb2 fb2 xc0 fc0 xc1 fc1 xc2 fc2; obtain ⟨xa0, xa1, xa2, fa0, fa1, fa2⟩ := three_cells H5; obtain ⟨xb0, xb1, xb2, fb0, fb1, fb2⟩ := three_cells H7; obtain ⟨xc0, xc1, xc2, fc0, fc1, fc2⟩ := three_cells H8) | (go_at_call 50; (with_reducible refine (KAF.out _ hB hn20).mono ?_); rintro e w1 ⟨rfl, hb1⟩; replace H5 := (hb1.block _ (lt_heap H5)).trans H5; replace H7 := (hb1.block _ (lt_heap H7)).trans H7; replace H8 := (hb1.block _ (lt_heap H8)).trans H8; replace hB := below_on hB hb1; clear hb1 xa0 fa0 xa1 fa1 xa2 fa2 xb0 fb0 xb1 fb1 xb2 fb2 xc0 fc0 xc1 fc1 xc2 fc2; obtain ⟨xa0, xa1, xa2, fa0, fa1, fa2⟩ := three_cells H5; obtain ⟨xb0, xb1, xb2, fb0, fb1, fb2⟩ := three_cells H7; obtain ⟨xc0, xc1, xc2, fc0, fc1, fc2⟩ := three_cells H8) | (go_at_call 50; (with_reducible refine (KAG.out _ hB hn20).mono ?_); rintro e w1 ⟨rfl, hb1⟩; replace H5 := (hb1.block _ (lt_heap H5)).trans H5; replace H7 := (hb1.block _ (lt_heap H7)).trans H7; replace H8 := (hb1.block _ (lt_heap H8)).trans H8; replace hB := below_on hB hb1; clear hb1 xa0 fa0 xa1 fa1 xa2 fa2 xb0 fb0 xb1 fb1 xb2 fb2 xc0 fc0 xc1 fc1 xc2 fc2; obtain ⟨xa0, xa1, xa2, fa0, fa1, fa2⟩ := three_cells H5; obtain ⟨xb0, xb1, xb2, fb0, fb1, fb2⟩ := three_cells H7; obtain ⟨xc0, xc1, xc2, fc0, fc1, fc2⟩ := three_cells H8) | (go_at_call 41; (with_reducible refine (works18_any _).mono ?_); rintro e w1 ⟨rfl, hb1⟩; replace H5 := (hb1.block _ (lt_heap H5)).trans H5; replace H7 := (hb1.block _ (lt_heap H7)).trans H7; replace H8 := (hb1.block _ (lt_heap H8)).trans H8; replace hB := below_on hB hb1; clear hb1 xa0 fa0 xa1 fa1 xa2 fa2 xb0 fb0 xb1 fb1 xb2 fb2 xc0 fc0 xc1 fc1 xc2 fc2; obtain ⟨xa0, xa1, xa2, fa0, fa1, fa2⟩ := three_cells H5; obtain ⟨xb0, xb1, xb2, fb0, fb1, fb2⟩ := three_cells H7; obtain ⟨xc0, xc1, xc2, fc0, fc1, fc2⟩ := three_cells H8))
            go_ret
            exact ⟨rfl, hB⟩
          | true =>
            cases q2 with
            | false =>
              go_wp2_with (first | (go_at_call 46; (with_reducible refine (KF.out _ hB).mono ?_); rintro e w1 ⟨rfl, hb1⟩; replace H5 := (hb1.block _ (lt_heap H5)).trans H5; replace H7 := (hb1.block _ (lt_heap H7)).trans H7; replace H8 := (hb1.block _ (lt_heap H8)).trans H8; replace hB := below_on hB hb1; clear hb1 xa0 fa0 xa1 fa1 xa2 fa2 xb0 fb0 xb1 fb1 xb2 fb2 xc0 fc0 xc1 fc1 xc2 fc2; obtain ⟨xa0, xa1, xa2, fa0, fa1, fa2⟩ := three_cells H5; obtain ⟨xb0, xb1, xb2, fb0, fb1, fb2⟩ := three_cells H7; obtain ⟨xc0, xc1, xc2, fc0, fc1, fc2⟩ := three_cells H8) | (go_at_call 46; (with_reducible refine (KG.out _ hB).mono ?_); rintro e w1 ⟨rfl, hb1⟩; replace H5 := (hb1.block _ (lt_heap H5)).trans H5; replace H7 := (hb1.block _ (lt_heap H7)).trans H7; replace H8 := (hb1.block _ (lt_heap H8)).trans H8; replace hB := below_on hB hb1; clear hb1 xa0 fa0 xa1 fa1 xa2 fa2 xb0 fb0 xb1 fb1 xb2 fb2 xc0 fc0 xc1 fc1 xc2 fc2; obtain ⟨xa0, xa1, xa2, fa0, fa1, fa2⟩ := three_cells H5; obtain ⟨xb0, xb1, xb2, fb0, fb1, fb2⟩ := three_cells H7; obtain ⟨xc0, xc1, xc2, fc0, fc1, fc2⟩ := three_cells H8) | (go_at_call 46; (with_reducible refine (KT.out _ hB).mono ?_); rintro e w1 ⟨rfl, hb1⟩; replace H5 := (hb1.block _ (lt_heap H5)).trans H5; replace H7 := (hb1.block _ (lt_heap H7)).trans H7; replace H8 := (hb1.block _ (lt_heap H8)).trans H8; replace hB := below_on hB hb1; clear hb1 xa0 fa0 xa1 fa1 xa2 fa2 xb0 fb0 xb1 fb1 xb2 fb2 xc0 fc0 xc1 fc1 xc2 fc2; obtain ⟨xa0, xa1, xa2, fa0, fa1, fa2⟩ := three_cells H5; obtain ⟨xb0, xb1, xb2, fb0, fb1, fb2⟩ := three_cells H7; obtain ⟨xc0, xc1, xc2, fc0, fc1, fc2⟩ := three_cells H8) | (go_at_call 53; (with_reducible refine (KRF.out _ hB).mono ?_); rintro e w1 ⟨rfl, hb1⟩; replace H5 := (hb1.block _ (lt_heap H5)).trans H5; replace H7 := (hb1.block _ (lt_heap H7)).trans H7; replace H8 := (hb1.block _ (lt_heap H8)).trans H8; replace hB := below_on hB hb1; clear hb1 xa0 fa0 xa1 fa1 xa2 fa2 xb0 fb0 xb1 fb1 xb2 fb2 xc0 fc0 xc1 fc1 xc2 fc2; obtain ⟨xa0, xa1, xa2, fa0, fa1, fa2⟩ := three_cells H5; obtain ⟨xb0, xb1, xb2, fb0, fb1, fb2⟩ := three_cells H7; obtain ⟨xc0, xc1, xc2, fc0, fc1, fc2⟩ := three_cells H8) | (go_at_call 53; (with_reducible refine (KRG.out _ hB).mono ?_); rintro e w1 ⟨rfl, hb1⟩; replace H5 := (hb1.block _ (lt_heap H5)).trans H5; replace H7 := (hb1.block _ (lt_heap H7)).trans H7; replace H8 := (hb1.block _ (lt_heap H8)).trans H8; replace hB := below_on hB hb1; clear hb1 xa0 fa0 xa1 fa1 xa2 fa2 xb0 fb0 xb1 fb1 xb2 fb2 xc0 fc0 xc1 fc1 xc2 fc2; obtain ⟨xa0, xa1, xa2, fa0, fa1, fa2⟩ := three_cells H5; obtain ⟨xb0, xb1, xb2, fb0, fb1, fb2⟩ := three_cells H7; obtain ⟨xc0, xc1, xc2, fc0, fc1, fc2⟩ := three_cells H8) | (go_at_call 53; (with_reducible refine (KRT.out _ hB).mono ?_); rintro e w1 ⟨rfl, hb1⟩; replace H5 := (hb1.block _ (lt_heap H5)).trans H5; replace H7 := (hb1.block _ (lt_heap H7)).trans H7; replace H8 := (hb1.block _ (lt_heap H8)).trans H8; replace hB := below_on hB hb1; clear hb1 xa0 fa0 xa1 fa1 xa2 fa2 xb0 fb0 xb1 fb1 xb2 fb2 xc0 fc0 xc1 fc1 xc2 fc2; obtain ⟨xa0, xa1, xa2, fa0, fa1, fa2⟩ := three_cells H5; obtain ⟨xb0, xb1, xb2, fb0, fb1, fb2⟩ := three_cells H7; obtain ⟨xc0, xc1, xc2, fc0, fc1, fc2⟩ := three_cells H8) | (go_at_call 50; (with_reducible refine (KAF.out _ hB hn20).mono ?_); rintro e w1 ⟨rfl, hb1⟩; replace H5 := (hb1.block _ (lt_heap H5)).trans H5; replace H7 := (hb1.block _ (lt_heap H7)).trans H7; replace H8 := (hb1.block _ (lt_heap H8)).trans H8; replace hB := below_on hB hb1; clear hb1 xa0 fa0 xa1 fa1 xa2 fa2 xb0 fb0 xb1 fb1 xb2 fb2 xc0 fc0 xc1 fc1 xc2 fc2; obtain ⟨xa0, xa1, xa2, fa0, fa1, fa2⟩ := three_cells H5; obtain ⟨xb0, xb1, xb2, fb0, fb1, fb2⟩ := three_cells H7; obtain ⟨xc0, xc1, xc2, fc0, fc1, fc2⟩ := three_cells H8) | (go_at_call 50; (with_reducible refine (KAG.out _ hB hn20).mono ?_); rintro e w1 ⟨rfl, hb1⟩; replace H5 := (hb1.block _ (lt_heap H5)).trans H5; replace H7 := (hb1.block _ (lt_heap H7)).trans H7; replace H8 := (hb1.block _ (lt_heap H8)).trans H8; replace hB := below_on hB hb1; clear hb1 xa0 fa0 xa1 fa1 xa2 fa2 xb0 fb0 xb1 fb1 xb2 fb2 xc0 fc0 xc1 fc1 xc2 fc2; obtain ⟨xa0, xa1, xa2, fa0, fa1, fa2⟩ := three_cells H5; obtain ⟨xb0, xb1, xb2, fb0, fb1, fb2⟩ := three_cells H7; obtain ⟨xc0, xc1, xc2, fc0, fc1, fc2⟩ := three_cells H8) | (go_at_call 41; (with_reducible refine (works18_any _).mono ?_); rintro e w1 ⟨rfl, hb1⟩; replace H5 := (hb1.block _ (lt_heap H5)).trans H5; replace H7 := (hb1.block _ (lt_heap H7)).trans H7; replace H8 := (hb1.block _ (lt_heap H8)).trans H8; replace hB := below_on hB hb1; clear hb1 xa0 fa0 xa1 fa1 xa2 fa2 xb0 fb0 xb1 fb1 xb2 fb2 xc0 fc0 xc1 fc1 xc2 fc2; obtain ⟨xa0, xa1, xa2, fa0, fa1, fa2⟩ := three_cells H5; obtain ⟨xb0, xb1, xb2, fb0, fb1, fb2⟩ := three_cells H7; obtain ⟨xc0, xc1, xc2, fc0, fc1, fc2⟩ := three_cells H8))
              go_ret
              exact ⟨rfl, hB⟩
            | true =>
              cases q3 with
              | false =>
                go_wp2_with (first | (go_at_call 46; (with_reducible refine (KF.out _ hB).mono ?_); rintro e w1 ⟨rfl, hb1⟩; replace H5 := (hb1.block _ (lt_heap H5)).trans H5; replace H7 := (hb1.block _ (lt_heap H7)).trans H7; replace H8 := (hb1.block _ (lt_heap H8)).trans H8; replace hB := below_on hB hb1; clear hb1 xa0 fa0 xa1 fa1 xa2 fa2 xb0 fb0 xb1 fb1 xb2 fb2 xc0 fc0 xc1 fc1 xc2 fc2; obtain ⟨xa0, xa1, xa2, fa0, fa1, fa2⟩ := three_cells H5; obtain ⟨xb0, xb1, xb2, fb0, fb1, fb2⟩ := three_cells H7; obtain ⟨xc0, xc1, xc2, fc0, fc1, fc2⟩ := three_cells H8) | (go_at_call 46; (with_reducible refine (KG.out _ hB).mono ?_); rintro e w1 ⟨rfl, hb1⟩; replace H5 := (hb1.block _ (lt_heap H5)).trans H5; replace H7 := (hb1.block _ (lt_heap H7)).trans H7; replace H8 := (hb1.block _ (lt_heap H8)).trans H8; replace hB := below_on hB hb1; clear hb1 xa0 fa0 xa1 fa1 xa2 fa2 xb0 fb0 xb1 fb1 xb2 fb2 xc0 fc0 xc1 fc1 xc2 fc2; obtain ⟨xa0, xa1, xa2, fa0, fa1, fa2⟩ := three_cells H5; obtain ⟨xb0, xb1, xb2, fb0, fb1, fb2⟩ := three_cells H7; obtain ⟨xc0, xc1, xc2, fc0, fc1, fc2⟩ := three_cells H8) | (go_at_call 46; (with_reducible refine (KT.out _ hB).mono ?_); rintro e w1 ⟨rfl, hb1⟩; replace H5 := (hb1.block _ (lt_heap H5)).trans H5; replace H7 := (hb1.block _ (lt_heap H7)).trans H7; replace H8 := (hb1.block _ (lt_heap H8)).trans H8; replace hB := below_on hB hb1; clear hb1 xa0 fa0 xa1 fa1 xa2 fa2 xb0 fb0 xb1 fb1 xb2 fb2 xc0 fc0 xc1 fc1 xc2 fc2; obtain ⟨xa0, xa1, xa2, fa0, fa1, fa2⟩ := three_cells H5; obtain ⟨xb0, xb1, xb2, fb0, fb1, fb2⟩ := three_cells H7; obtain ⟨xc0, xc1, xc2, fc0, fc1, fc2⟩ := three_cells H8) | (go_at_call 53; (with_reducible refine (KRF.out _ hB).mono ?_); rintro e w1 ⟨rfl, hb1⟩; replace H5 := (hb1.block _ (lt_heap H5)).trans H5; replace H7 := (hb1.block _ (lt_heap H7)).trans H7; replace H8 := (hb1.block _ (lt_heap H8)).trans H8; replace hB := below_on hB hb1; clear hb1 xa0 fa0 xa1 fa1 xa2 fa2 xb0 fb0 xb1 fb1 xb2 fb2 xc0 fc0 xc1 fc1 xc2 fc2; obtain ⟨xa0, xa1, xa2, fa0, fa1, fa2⟩ := three_cells H5; obtain ⟨xb0, xb1, xb2, fb0, fb1, fb2⟩ := three_cells H7; obtain ⟨xc0, xc1, xc2, fc0, fc1, fc2⟩ := three_cells H8) | (go_at_call 53; (with_reducible refine (KRG.out _ hB).mono ?_); rintro e w1 ⟨rfl, hb1⟩; replace H5 := (hb1.block _ (lt_heap H5)).trans H5; replace H7 := (hb1.block _ (lt_heap H7)).trans H7; replace H8 := (hb1.block _ (lt_heap H8)).trans H8; replace hB := below_on hB hb1; clear hb1 xa0 fa0 xa1 fa1 xa2 fa2 xb0 fb0 xb1 fb1 xb2 fb2 xc0 fc0 xc1 fc1 xc2 fc2; obtain ⟨xa0, xa1, xa2, fa0, fa1, fa2⟩ := three_cells H5; obtain ⟨xb0, xb1, xb2, fb0, fb1, fb2⟩ := three_cells H7; obtain ⟨xc0, xc1, xc2, fc0, fc1, fc2⟩ := three_cells H8) | (go_at_call 53; (with_reducible refine (KRT.out _ hB).mono ?_); rintro e w1 ⟨rfl, hb1⟩; replace H5 := (hb1.block _ (lt_heap H5)).trans H5; replace H7 := (hb1.block _ (lt_heap H7)).trans H7; replace H8 := (hb1.block _ (lt_heap H8)).trans H8; replace hB := below_on hB hb1; clear hb1 xa0 fa0 xa1 fa1 xa2 fa2 xb0 fb0 xb1 fb1 xb2 fb2 xc0 fc0 xc1 fc1 xc2 fc2; obtain ⟨xa0, xa1, xa2, fa0, fa1, fa2⟩ := three_cells H5; obtain ⟨xb0, xb1, xb2, fb0, fb1, fb2⟩ := three_cells H7; obtain ⟨xc0, xc1, xc2, fc0, fc1, fc2⟩ := three_cells H8) | (go_at_call 50; (with_reducible refine (KAF.out _ hB hn20).mono ?_); rintro e w1 ⟨rfl, hb1⟩; replace H5 := (hb1.block _ (lt_heap H5)).trans H5; replace H7 := (hb1.block _ (lt_heap H7)).trans H7; replace H8 := (hb1.block _ (lt_heap H8)).trans H8; replace hB := below_on hB hb1; clear hb1 xa0 fa0 xa1 fa1 xa2 fa2 xb0 fb0 xb1 fb1 xb2 fb2 xc0 fc0 xc1 fc1 xc2 fc2; obtain ⟨xa0, xa1, xa2, fa0, fa1, fa2⟩ := three_cells H5; obtain ⟨xb0, xb1, xb2, fb0, fb1, fb2⟩ := three_cells H7; obtain ⟨xc0, xc1, xc2, fc0, fc1, fc2⟩ := three_cells H8) | (go_at_call 50; (with_reducible refine (KAG.out _ hB hn20).mono ?_); rintro e w1 ⟨rfl, hb1⟩; replace H5 := (hb1.block _ (lt_heap H5)).trans H5; replace H7 := (hb1.block _ (lt_heap H7)).trans H7; replace H8 := (hb1.block _ (lt_heap H8)).trans H8; replace hB := below_on hB hb1; clear hb1 xa0 fa0 xa1 fa1 xa2 fa2 xb0 fb0 xb1 fb1 xb2 fb2 xc0 fc0 xc1 fc1 xc2 fc2; obtain ⟨xa0, xa1, xa2, fa0, fa1, fa2⟩ := three_cells H5; obtain ⟨xb0, xb1, xb2, fb0, fb1, fb2⟩ := three_cells H7; obtain ⟨xc0, xc1, xc2, fc0, fc1, fc2⟩ := three_cells H8) | (go_at_call 41; (with_reducible refine (works18_any _).mono ?_); rintro e w1 ⟨rfl, hb1⟩; replace H5 := (hb1.block _ (lt_heap H5)).trans H5; replace H7 := (hb1.block _ (lt_heap H7)).trans H7; replace H8 := (hb1.block _ (lt_heap H8)).trans H8; replace hB := below_on hB hb1; clear hb1 xa0 fa0 xa1 fa1 xa2 fa2 xb0 fb0 xb1 fb1 xb2 fb2 xc0 fc0 xc1 fc1 xc2 fc2; obtain ⟨xa0, xa1, xa2, fa0, fa1, fa2⟩ := three_cells H5; obtain ⟨xb0, xb1, xb2, fb0, fb1, fb2⟩ := three_cells H7; obtain ⟨xc0, xc1, xc2, fc0, fc1, fc2⟩ := three_cells H8))
                go_ret
                exact ⟨rfl, hB⟩
              | true =>
                cases s1 with
                | false =>
                  go_wp2_with (first | (go_at_call 46; (with_reducible refine (KF.out _ hB).mono ?_); rintro e w1 ⟨rfl, hb1⟩; replace H5 := (hb1.block _ (lt_heap H5)).trans H5; replace H7 := (hb1.block _ (lt_heap H7)).trans H7; replace H8 := (hb1.block _ (lt_heap H8)).trans H8; replace hB := below_on hB hb1; clear hb1 xa0 fa0 xa1 fa1 xa2 fa2 xb0 fb0 xb1 fb1 xb2 fb2 xc0 fc0 xc1 fc1 xc2 fc2; obtain ⟨xa0, xa1, xa2, fa0, fa1, fa2⟩ := three_cells H5; obtain ⟨xb0, xb1, xb2, fb0, fb1, fb2⟩ := three_cells H7; obtain ⟨xc0, xc1, xc2, fc0, fc1, fc2⟩ := three_cells H8) | (go_at_call 46; (with_reducible refine (KG.out _ hB).mono ?_); rintro e w1 ⟨rfl, hb1⟩; replace H5 := (hb1.block _ (lt_heap H5)).trans H5; replace H7 := (hb1.block _ (lt_heap H7)).trans H7; replace H8 := (hb1.block _ (lt_heap H8)).trans H8; replace hB := below_on hB hb1; clear hb1 xa0 fa0 xa1 fa1 xa2 fa2 xb0 fb0 xb1 fb1 xb2 fb2 xc0 fc0 xc1 fc1 xc2 fc2; obtain ⟨xa0, xa1, xa2, fa0, fa1, fa2⟩ := three_cells H5; obtain ⟨xb0, xb1, xb2, fb0, fb1, fb2⟩ := three_cells H7; obtain ⟨xc0, xc1, xc2, fc0, fc1, fc2⟩ := three_cells H8) | (go_at_call 46; (with_reducible refine (KT.out _ hB).mono ?_); rintro e w1 ⟨rfl, hb1⟩; replace H5 := (hb1.block _ (lt_heap H5)).trans H5; replace H7 := (hb1.block _ (lt_heap H7)).trans H7; replace H8 := (hb1.block _ (lt_heap H8)).trans H8; replace hB := below_on hB hb1; clear hb1 xa0 fa0 xa1 fa1 xa2 fa2 xb0 fb0 xb1 fb1 xb2 fb2 xc0 fc0 xc1 fc1 xc2 fc2; obtain ⟨xa0, xa1, xa2, fa0, fa1, fa2⟩ := three_cells H5; obtain ⟨xb0, xb1, xb2, fb0, fb1, fb2⟩ := three_cells H7; obtain ⟨xc0, xc1, xc2, fc0, fc1, fc2⟩ := three_cells H8) | (go_at_call 53; (with_reducible refine (KRF.out _ hB).mono ?_); rintro e w1 ⟨rfl, hb1⟩; replace H5 := (hb1.block _ (lt_heap H5)).trans H5; replace H7 := (hb1.block _ (lt_heap H7)).trans H7; replace H8 := (hb1.block _ (lt_heap H8)).trans H8; replace hB := below_on hB hb1; clear hb1 xa0 fa0 xa1 fa1 xa2 fa2 xb0 fb0 xb1 fb1 xb2 fb2 xc0 fc0 xc1 fc1 xc2 fc2; obtain ⟨xa0, xa1, xa2, fa0, fa1, fa2⟩ := three_cells H5; obtain ⟨xb0, xb1, xb2, fb0, fb1, fb2⟩ := three_cells H7; obtain ⟨xc0, xc1, xc2, fc0, fc1, fc2⟩ := three_cells H8) | (go_at_call 53; (with_reducible refine (KRG.out _ hB).mono ?_); rintro e w1 ⟨rfl, hb1⟩; replace H5 := (hb1.block _ (lt_heap H5)).trans H5; replace H7 := (hb1.block _ (lt_heap H7)).trans H7; replace H8 := (hb1.block _ (lt_heap H8)).trans H8; replace hB := below_on hB hb1; clear hb1 xa0 fa0 xa1 fa1 xa2 fa2 xb0 fb0 xb1 fb1 xb2 fb2 xc0 fc0 xc1 fc1 xc2 fc2; obtain ⟨xa0, xa1, xa2, fa0, fa1, fa2⟩ := three_cells H5; obtain ⟨xb0, xb1, xb2, fb0, fb1, fb2⟩ := three_cells H7; obtain ⟨xc0, xc1, xc2, fc0, fc1, fc2⟩ := three_cells H8) | (go_at_call 53; (with_reducible refine (KRT.out _ hB).mono ?_); rintro e w1 ⟨rfl, hb1⟩; replace H5 := (hb1.block _ (lt_heap H5)).trans H5; replace H7 := (hb1.block _ (lt_heap H7)).trans H7; replace H8 := (hb1.block _ (lt_heap H8)).trans H8; replace hB := below_on hB hb1; clear hb1 xa0 fa0 xa1 fa1 xa2 fa2 xb0 fb0 xb1 fb1 xb2 fb2 xc0 fc0 xc1 fc1 xc2 fc2; obtain ⟨xa0, xa1, xa2, fa0, fa1, fa2⟩ := three_cells H5; obtain ⟨xb0, xb1, xb2, fb0, fb1, fb2⟩ := three_cells H7; obtain ⟨xc0, xc1, xc2, fc0, fc1, fc2⟩ := three_cells H8) | (go_at_call 50; (with_reducible refine (KAF.out _ hB hn20).mono ?_); rintro e w1 ⟨rfl, hb1⟩; replace H5 := (hb1.block _ (lt_heap H5)).trans H5; replace H7 := (hb1.block _ (lt_heap H7)).trans H7; replace H8 := (hb1.block _ (lt_heap H8)).trans H8; replace hB := below_on hB hb1; clear hb1 xa0 fa0 xa1 fa1 xa2 fa2 xb0 fb0 xb1 fb1 xb2 fb2 xc0 fc0 xc1 fc1 xc2 fc2; obtain ⟨xa0, xa1, xa2, fa0, fa1, fa2⟩ := three_cells H5; obtain ⟨xb0, xb1, xb2, fb0, fb1, fb2⟩ := three_cells H7; obtain ⟨xc0, xc1, xc2, fc0, fc1, fc2⟩ := three_cells H8) | (go_at_call 50; (with_reducible refine (KAG.out _ hB hn20).mono ?_); rintro e w1 ⟨rfl, hb1⟩; replace H5 := (hb1.block _ (lt_heap H5)).trans H5; replace H7 := (hb1.block _ (lt_heap H7)).trans H7; replace H8 := (hb1.block _ (lt_heap H8)).trans H8; replace hB := below_on hB hb1; clear hb1 xa0 fa0 xa1 fa1 xa2 fa2 xb0 fb0 xb1 fb1 xb2 fb2 xc0 fc0 xc1 fc1 xc2 fc2; obtain ⟨xa0, xa1, xa2, fa0, fa1, fa2⟩ := three_cells H5; obtain ⟨xb0, xb1, xb2, fb0, fb1, fb2⟩ := three_cells H7; obtain ⟨xc0, xc1, xc2, fc0, fc1, fc2⟩ := three_cells H8) | (go_at_call 41; (with_reducible refine (works18_any _).mono ?_); rintro e w1 ⟨rfl, hb1⟩; replace H5 := (hb1.block _ (lt_heap H5)).trans H5; replace H7 := (hb1.block _ (lt_heap H7)).trans H7; replace H8 := (hb1.block _ (lt_heap H8)).trans H8; replace hB := below_on hB hb1; clear hb1 xa0 fa0 xa1 fa1 xa2 fa2 xb0 fb0 xb1 fb1 xb2 fb2 xc0 fc0 xc1 fc1 xc2 fc2; obtain ⟨xa0, xa1, xa2, fa0, fa1, fa2⟩ := three_cells H5; obtain ⟨xb0, xb1, xb2, fb0, fb1, fb2⟩ := three_cells H7; obtain ⟨xc0, xc1, xc2, fc0, fc1, fc2⟩ := three_cells H8))
                  go_ret
                  exact ⟨rfl, hB⟩
                | true =>
                  cases s2 with
                  | false =>
                    go_wp2_with (first | (go_at_call 46; (with_reducible refine (KF.out _ hB).mono ?_); rintro e w1 ⟨rfl, hb1⟩; replace H5 := (hb1.block _ (lt_heap H5)).trans H5; replace H7 := (hb1.block _ (lt_heap H7)).trans H7; replace H8 := (hb1.block _ (lt_heap H8)).trans H8; replace hB := below_on hB hb1; clear hb1 xa0 fa0 xa1 fa1 xa2 fa2 xb0 fb0 xb1 fb1 xb2 fb2 xc0 fc0 xc1 fc1 xc2 fc2; obtain ⟨xa0, xa1, xa2, fa0, fa1, fa2⟩ := three_cells H5; obtain ⟨xb0, xb1, xb2, fb0, fb1, fb2⟩ := three_cells H7; obtain ⟨xc0, xc1, xc2, fc0, fc1, fc2⟩ := three_cells H8) | (go_at_call 46; (with_reducible refine (KG.out _ hB).mono ?_); rintro e w1 ⟨rfl, hb1⟩; replace H5 := (hb1.block _ (lt_heap H5)).trans H5; replace H7 := (hb1.block _ (lt_heap H7)).trans H7; replace H8 := (hb1.block _ (lt_heap H8)).trans H8; replace hB := below_on hB hb1; clear hb1 xa0 fa0 xa1 fa1 xa2 fa2 xb0 fb0 xb1 fb1 xb2 fb2 xc0 fc0 xc1 fc1 xc2 fc2; obtain ⟨xa0, xa1, xa2, fa0, fa1, fa2⟩ := three_cells H5; obtain ⟨xb0, xb1, xb2, fb0, fb1, fb2⟩ := three_cells H7; obtain ⟨xc0, xc1, xc2, fc0, fc1, fc2⟩ := three_cells H8) | (go_at_call 46; (with_reducible refine (KT.out _ hB).mono ?_); rintro e w1 ⟨rfl, hb1⟩; replace H5 := (hb1.block _ (lt_heap H5)).trans H5; replace H7 := (hb1.block _ (lt_heap H7)).trans H7; replace H8 := (hb1.block _ (lt_heap H8)).trans H8; replace hB := below_on hB hb1; clear hb1 xa0 fa0 xa1 fa1 xa2 fa2 xb0 fb0 xb1 fb1 xb2 fb2 xc0 fc0 xc1 fc1 xc2 fc2; obtain ⟨xa0, xa1, xa2, fa0, fa1, fa2⟩ := three_cells H5; obtain ⟨xb0, xb1, xb2, fb0, fb1, fb2⟩ := three_cells H7; obtain ⟨xc0, xc1, xc2, fc0, fc1, fc2⟩ := three_cells H8) | (go_at_call 53; (with_reducible refine (KRF.out _ hB).mono ?_); rintro e w1 ⟨rfl, hb1⟩; replace H5 := (hb1.block _ (lt_heap H5)).trans H5; replace H7 := (hb1.block _ (lt_heap H7)).trans H7; replace H8 := (hb1.block _ (lt_heap H8)).trans H8; replace hB := below_on hB hb1; clear hb1 xa0 fa0 xa1 fa1 xa2 fa2 xb0 fb0 xb1 fb1 xb2 fb2 xc0 fc0 xc1 fc1 xc2 fc2; obtain ⟨xa0, xa1, xa2, fa0, fa1, fa2⟩ := three_cells H5; obtain ⟨xb0, xb1, xb2, fb0, fb1, fb2⟩ := three_cells H7; obtain ⟨xc0, xc1, xc2, fc0, fc1, fc2⟩ := three_cells H8) | (go_at_call 53; (with_reducible refine (KRG.out _ hB).mono ?_); rintro e w1 ⟨rfl, hb1⟩; replace H5 := (hb1.block _ (lt_heap H5)).trans H5; replace H7 := (hb1.block _ (lt_heap H7)).trans H7; replace H8 := (hb1.block _ (lt_heap H8)).trans H8; replace hB := below_on hB hb1; clear hb1 xa0 fa0 xa1 fa1 xa2 fa2 xb0 fb0 xb1 fb1 xb2 fb2 xc0 fc0 xc1 fc1 xc2 fc2; obtain ⟨xa0, xa1, xa2, fa0, fa1, fa2⟩ := three_cells H5; obtain ⟨xb0, xb1, xb2, fb0, fb1, fb2⟩ := three_cells H7; obtain ⟨xc0, xc1, xc2, fc0, fc1, fc2⟩ := three_cells H8) | (go_at_call 53; (with_reducible refine (KRT.out _ hB).mono ?_); rintro e w1 ⟨rfl, hb1⟩; replace H5 := (hb1.block _ (lt_heap H5)).trans H5; replace H7 := (hb1.block _ (lt_heap H7)).trans H7; replace H8 := (hb1.block _ (lt_heap H8)).trans H8; replace hB := below_on hB hb1; clear hb1 xa0 fa0 xa1 fa1 xa2 fa2 xb0 fb0 xb1 fb1 xb2 fb2 xc0 fc0 xc1 fc1 xc2 fc2; obtain ⟨xa0, xa1, xa2, fa0, fa1, fa2⟩ := three_cells H5; obtain ⟨xb0, xb1, xb2, fb0, fb1, fb2⟩ := three_cells H7; obtain ⟨xc0, xc1, xc2, fc0, fc1, fc2⟩ := three_cells H8) | (go_at_call 50; (with_reducible refine (KAF.out _ hB hn20).mono ?_); rintro e w1 ⟨rfl, hb1⟩; replace H5 := (hb1.block _ (lt_heap H5)).trans H5; replace H7 := (hb1.block _ (lt_heap H7)).trans H7; replace H8 := (hb1.block _ (lt_heap H8)).trans H8; replace hB := below_on hB hb1; clear hb1 xa0 fa0 xa1 fa1 xa2 fa2 xb0 fb0 xb1 fb1 xb2 fb2 xc0 fc0 xc1 fc1 xc2 fc2; obtain ⟨xa0, xa1, xa2, fa0, fa1, fa2⟩ := three_cells H5; obtain ⟨xb0, xb1, xb2, fb0, fb1, fb2⟩ := three_cells H7; obtain ⟨xc0, xc1, xc2, fc0, fc1, fc2⟩ := three_cells H8) | (go_at_call 50; (with_reducible refine (KAG.out _ hB hn20).mono ?_); rintro e w1 ⟨rfl, hb1⟩; replace H5 := (hb1.block _ (lt_heap H5)).trans H5; replace H7 := (hb1.block _ (lt_heap H7)).trans H7; replace H8 := (hb1.block _ (lt_heap H8)).trans H8; replace hB := below_on hB hb1; clear hb1 xa0 fa0 xa1 fa1 xa2 fa2 xb0 fb0 xb1 fb1 xb2 fb2 xc0 fc0 xc1 fc1 xc2 fc2; obtain ⟨xa0, xa1, xa2, fa0, fa1, fa2⟩ := three_cells H5; obtain ⟨xb0, xb1, xb2, fb0, fb1, fb2⟩ := three_cells H7; obtain ⟨xc0, xc1, xc2, fc0, fc1, fc2⟩ := three_cells H8) | (go_at_call 41; (with_reducible refine (works18_any _).mono ?_); rintro e w1 ⟨rfl, hb1⟩; replace H5 := (hb1.block _ (lt_heap H5)).trans H5; replace H7 := (hb1.block _ (lt_heap H7)).trans H7; replace H8 := (hb1.block _ (lt_heap H8)).trans H8; replace hB := below_on hB hb1; clear hb1 xa0 fa0 xa1 fa1 xa2 fa2 xb0 fb0 xb1 fb1 xb2 fb2 xc0 fc0 xc1 fc1 xc2 fc2; obtain ⟨xa0, xa1, xa2, fa0, fa1, fa2⟩ := three_cells H5; obtain ⟨xb0, xb1, xb2, fb0, fb1, fb2⟩ := three_cells H7; obtain ⟨xc0, xc1, xc2, fc0, fc1, fc2⟩ := three_cells H8))
                    go_ret
                    exact ⟨rfl, hB⟩
                  | true =>
                    have HU0 := Lib.hid (shape_of_as HF.out HG.out S1.out S2.out)
                    obtain ⟨hn20', hv, hm1, hm2⟩ := HS.out rfl
                    have HV := Lib.hid hv
                    have hsh := HU0.out
                    clear hv
                    go_upto_region 4 with (first | (go_at_call 46; (with_reducible refine (KF.out _ hB).mono ?_); rintro e w1 ⟨rfl, hb1⟩; replace H5 := (hb1.block _ (lt_heap H5)).trans H5; replace H7 := (hb1.block _ (lt_heap H7)).trans H7; replace H8 := (hb1.block _ (lt_heap H8)).trans H8; replace hB := below_on hB hb1; clear hb1 xa0 fa0 xa1 fa1 xa2 fa2 xb0 fb0 xb1 fb1 xb2 fb2 xc0 fc0 xc1 fc1 xc2 fc2; obtain ⟨xa0, xa1, xa2, fa0, fa1, fa2⟩ := three_cells H5; obtain ⟨xb0, xb1, xb2, fb0, fb1, fb2⟩ := three_cells H7; obtain ⟨xc0, xc1, xc2, fc0, fc1, fc2⟩ := three_cells H8) | (go_at_call 46; (with_reducible refine (KG.out _ hB).mono ?_); rintro e w1 ⟨rfl, hb1⟩; replace H5 := (hb1.block _ (lt_heap H5)).trans H5; replace H7 := (hb1.block _ (lt_heap H7)).trans H7; replace H8 := (hb1.block _ (lt_heap H8)).trans H8; replace hB := below_on hB hb1; clear hb1 xa0 fa0 xa1 fa1 xa2 fa2 xb0 fb0 xb1 fb1 xb2 fb2 xc0 fc0 xc1 fc1 xc2 fc2; obtain ⟨xa0, xa1, xa2, fa0, fa1, fa2⟩ := three_cells H5; obtain ⟨xb0, xb1, xb2, fb0, fb1, fb2⟩ := three_cells H7; obtain ⟨xc0, xc1, xc2, fc0, fc1, fc2⟩ := three_cells H8) | (go_at_call 46; (with_reducible refine (KT.out _ hB).mono ?_); rintro e w1 ⟨rfl, hb1⟩; replace H5 := (hb1.block _ (lt_heap H5)).trans H5; replace H7 := (hb1.block _ (lt_heap H7)).trans H7; replace H8 := (hb1.block _ (lt_heap H8)).trans H8; replace hB := below_on hB hb1; clear hb1 xa0 fa0 xa1 fa1 xa2 fa2 xb0 fb0 xb1 fb1 xb2 fb2 xc0 fc0 xc1 fc1 xc2 fc2; obtain ⟨xa0, xa1, xa2, fa0, fa1, fa2⟩ := three_cells H5; obtain ⟨xb0, xb1, xb2, fb0, fb1, fb2⟩ := three_cells H7; obtain ⟨xc0, xc1, xc2, fc0, fc1, fc2⟩ := three_cells H8) | (go_at_call 53; (with_reducible refine (KRF.out _ hB).mono ?_); rintro e w1 ⟨rfl, hb1⟩; replace H5 := (hb1.block _ (lt_heap H5)).trans H5; replace H7 := (hb1.block _ (lt_heap H7)).trans H7; replace H8 := (hb1.block _ (lt_heap H8)).trans H8; replace hB := below_on hB hb1; clear hb1 xa0 fa0 xa1 fa1 xa2 fa2 xb0 fb0 xb1 fb1 xb2 fb2 xc0 fc0 xc1 fc1 xc2 fc2; obtain ⟨xa0, xa1, xa2, fa0, fa1, fa2⟩ := three_cells H5; obtain ⟨xb0, xb1, xb2, fb0, fb1, fb2⟩ := three_cells H7; obtain ⟨xc0, xc1, xc2, fc0, fc1, fc2⟩ := three_cells H8) | (go_at_call 53; (with_reducible refine (KRG.out _ hB).mono ?_); rintro e w1 ⟨rfl, hb1⟩; replace H5 := (hb1.block _ (lt_heap H5)).trans H5; replace H7 := (hb1.block _ (lt_heap H7)).trans H7; replace H8 := (hb1.block _ (lt_heap H8)).trans H8; replace hB := below_on hB hb1; clear hb1 xa0 fa0 xa1 fa1 xa2 fa2 xb0 fb0 xb1 fb1 xb2 fb2 xc0 fc0 xc1 fc1 xc2 fc2; obtain ⟨xa0, xa1, xa2, fa0, fa1, fa2⟩ := three_cells H5; obtain ⟨xb0, xb1, xb2, fb0, fb1, fb2⟩ := three_cells H7; obtain ⟨xc0, xc1, xc2, fc0, fc1, fc2⟩ := three_cells H8) | (go_at_call 53; (with_reducible refine (KRT.out _ hB).mono ?_); rintro e w1 ⟨rfl, hb1⟩; replace H5 := (hb1.block _ (lt_heap H5)).trans H5; replace H7 := (hb1.block _ (lt_heap H7)).trans H7; replace H8 := (hb1.block _ (lt_heap H8)).trans H8; replace hB := below_on hB hb1; clear hb1 xa0 fa0 xa1 fa1 xa2 fa2 xb0 fb0 xb1 fb1 xb2 fb2 xc0 fc0 xc1 fc1 xc2 fc2; obtain ⟨xa0, xa1, xa2, fa0, fa1, fa2⟩ := three_cells H5; obtain ⟨xb0, xb1, xb2, fb0, fb1, fb2⟩ := three_cells H7; obtain ⟨xc0, xc1, xc2, fc0, fc1, fc2⟩ := three_cells H8) | (go_at_call 50; (with_reducible refine (KAF.out _ hB hn20).mono ?_); rintro e w1 ⟨rfl, hb1⟩; replace H5 := (hb1.block _ (lt_heap H5)).trans H5; replace H7 := (hb1.block _ (lt_heap H7)).trans H7; replace H8 := (hb1.block _ (lt_heap H8)).trans H8; replace hB := below_on hB hb1; clear hb1 xa0 fa0 xa1 fa1 xa2 fa2 xb0 fb0 xb1 fb1 xb2 fb2 xc0 fc0 xc1 fc1 xc2 fc2; obtain ⟨xa0, xa1, xa2, fa0, fa1, fa2⟩ := three_cells H5; obtain ⟨xb0, xb1, xb2, fb0, fb1, fb2⟩ := three_cells H7; obtain ⟨xc0, xc1, xc2, fc0, fc1, fc2⟩ := three_cells H8) | (go_at_call 50; (with_reducible refine (KAG.out _ hB hn20).mono ?_); rintro e w1 ⟨rfl, hb1⟩; replace H5 := (hb1.block _ (lt_heap H5)).trans H5; replace H7 := (hb1.block _ (lt_heap H7)).trans H7; replace H8 := (hb1.block _ (lt_heap H8)).trans H8; replace hB := below_on hB hb1; clear hb1 xa0 fa0 xa1 fa1 xa2 fa2 xb0 fb0 xb1 fb1 xb2 fb2 xc0 fc0 xc1 fc1 xc2 fc2; obtain ⟨xa0, xa1, xa2, fa0, fa1, fa2⟩ := three_cells H5; obtain ⟨xb0, xb1, xb2, fb0, fb1, fb2⟩ := three_cells H7; obtain ⟨xc0, xc1, xc2, fc0, fc1, fc2⟩ := three_cells H8))
                    go_upto_region 5 with (go_at_call 47; (with_reducible refine (mfrM A n c L f g _ HN.out hn20 HV.out (HL.out.up hB) (HF.out.up hB) (HG.out.up hB) (by omega) (by omega) hsh).mono ?_); rintro e w1 ⟨F, rfl, hFo, hFj, hb1⟩; have HFO := Lib.hid hFo; have HFJ := Lib.hid hFj; clear hFo hFj; replace H5 := (hb1.block _ (lt_heap H5)).trans H5; replace H7 := (hb1.block _ (lt_heap H7)).trans H7; replace H8 := (hb1.block _ (lt_heap H8)).trans H8; replace hB := below_on hB hb1; clear hb1 xa0 fa0 xa1 fa1 xa2 fa2 xb0 fb0 xb1 fb1 xb2 fb2 xc0 fc0 xc1 fc1 xc2 fc2; obtain ⟨xa0, xa1, xa2, fa0, fa1, fa2⟩ := three_cells H5; obtain ⟨xb0, xb1, xb2, fb0, fb1, fb2⟩ := three_cells H7; obtain ⟨xc0, xc1, xc2, fc0, fc1, fc2⟩ := three_cells H8)
                    have H9 := World.alloc_heap_new w1 (.cells #[.slice F.A1 F.n1 F.c1, .slice F.A2 F.n2 F.c2, .bool F.u] 56)
                    replace H5 := laid_old (o' := (.cells #[.slice F.A1 F.n1 F.c1, .slice F.A2 F.n2 F.c2, .bool F.u] 56)) H5
                    replace H7 := laid_old (o' := (.cells #[.slice F.A1 F.n1 F.c1, .slice F.A2 F.n2 F.c2, .bool F.u] 56)) H7
                    replace H8 := laid_old (o' := (.cells #[.slice F.A1 F.n1 F.c1, .slice F.A2 F.n2 F.c2, .bool F.u] 56)) H8
                    replace hB := below_al hB (.cells #[.slice F.A1 F.n1 F.c1, .slice F.A2 F.n2 F.c2, .bool F.u] 56)
                    replace HFO := Lib.hid (HFO.out.up (below_al (Below.refl _ _) (.cells #[.slice F.A1 F.n1 F.c1, .slice F.A2 F.n2 F.c2, .bool F.u] 56)))
                    generalize w1.alloc (.cells #[.slice F.A1 F.n1 F.c1, .slice F.A2 F.n2 F.c2, .bool F.u] 56) = W7 at H9 H5 H7 H8 hB HFO ⊢
                    generalize w1.heap.size = B9 at H9 ⊢
                    clear xa0 fa0 xa1 fa1 xa2 fa2 xb0 fb0 xb1 fb1 xb2 fb2 xc0 fc0 xc1 fc1 xc2 fc2
                    obtain ⟨xa0, xa1, xa2, fa0, fa1, fa2⟩ := three_cells H5; obtain ⟨xb0, xb1, xb2, fb0, fb1, fb2⟩ := three_cells H7; obtain ⟨xc0, xc1, xc2, fc0, fc1, fc2⟩ := three_cells H8; obtain ⟨xd0, xd1, xd2, fd0, fd1, fd2⟩ := three_cells H9
                    have HU := Lib.hid (frame_lub HV.out (shape_len HF.out HG.out hsh) R1.out R2.out R3.out HFJ.out S1.out S2.out)
                    go_wp2_with (first | (go_at_call 50; (with_reducible refine (masM A n c L F t _ HN.out hn20 (HL.out.up hB) HFO.out (HT.out.up hB)).mono ?_); rintro e w1 ⟨rfl, hb1⟩; rw [HU.out]; replace H5 := (hb1.block _ (lt_heap H5)).trans H5; replace H7 := (hb1.block _ (lt_heap H7)).trans H7; replace H8 := (hb1.block _ (lt_heap H8)).trans H8; replace H9 := (hb1.block _ (lt_heap H9)).trans H9; replace HFO := Lib.hid (HFO.out.up hb1); replace hB := below_on hB hb1; clear hb1 xa0 fa0 xa1 fa1 xa2 fa2 xb0 fb0 xb1 fb1 xb2 fb2 xc0 fc0 xc1 fc1 xc2 fc2 xd0 fd0 xd1 fd1 xd2 fd2; obtain ⟨xa0, xa1, xa2, fa0, fa1, fa2⟩ := three_cells H5; obtain ⟨xb0, xb1, xb2, fb0, fb1, fb2⟩ := three_cells H7; obtain ⟨xc0, xc1, xc2, fc0, fc1, fc2⟩ := three_cells H8; obtain ⟨xd0, xd1, xd2, fd0, fd1, fd2⟩ := three_cells H9) | (go_at_call 41; (with_reducible refine (works18_any _).mono ?_); rintro e w1 ⟨rfl, hb1⟩; replace H5 := (hb1.block _ (lt_heap H5)).trans H5; replace H7 := (hb1.block _ (lt_heap H7)).trans H7; replace H8 := (hb1.block _ (lt_heap H8)).trans H8; replace H9 := (hb1.block _ (lt_heap H9)).trans H9; replace HFO := Lib.hid (HFO.out.up hb1); replace hB := below_on hB hb1; clear hb1 xa0 fa0 xa1 fa1 xa2 fa2 xb0 fb0 xb1 fb1 xb2 fb2 xc0 fc0 xc1 fc1 xc2 fc2 xd0 fd0 xd1 fd1 xd2 fd2; obtain ⟨xa0, xa1, xa2, fa0, fa1, fa2⟩ := three_cells H5; obtain ⟨xb0, xb1, xb2, fb0, fb1, fb2⟩ := three_cells H7; obtain ⟨xc0, xc1, xc2, fc0, fc1, fc2⟩ := three_cells H8; obtain ⟨xd0, xd1, xd2, fd0, fd1, fd2⟩ := three_cells H9))
                    go_ret
                    exact ⟨rfl, hB⟩
  · obtain ⟨H8, H7, hb2⟩ := two_laid W (.cells #[.slice g.A1 g.n1 g.c1, .slice g.A2 g.n2 g.c2, .bool g.u] 56) (.cells #[.slice f.A1 f.n1 f.c1, .slice f.A2 f.n2 f.c2, .bool f.u] 56)
    replace H8 : ((W.alloc (.cells #[.slice g.A1 g.n1 g.c1, .slice g.A2 g.n2 g.c2, .bool g.u] 56)).alloc (.cells #[.slice f.A1 f.n1 f.c1, .slice f.A2 f.n2 f.c2, .bool f.u] 56)).drew.heap[W.heap.size]? = some (.cells #[.slice g.A1 g.n1 g.c1, .slice g.A2 g.n2 g.c2, .bool g.u] 56) := H8
    replace H7 : ((W.alloc (.cells #[.slice g.A1 g.n1 g.c1, .slice g.A2 g.n2 g.c2, .bool g.u] 56)).alloc (.cells #[.slice f.A1 f.n1 f.c1, .slice f.A2 f.n2 f.c2, .bool f.u] 56)).drew.heap[W.heap.size + 1]? = some (.cells #[.slice f.A1 f.n1 f.c1, .slice f.A2 f.n2 f.c2, .bool f.u] 56) := H7
    replace H5 : ((W.alloc (.cells #[.slice g.A1 g.n1 g.c1, .slice g.A2 g.n2 g.c2, .bool g.u] 56)).alloc (.cells #[.slice f.A1 f.n1 f.c1, .slice f.A2 f.n2 f.c2, .bool f.u] 56)).drew.heap[w.heap.size + 1]? = _ := (hb2.block _ hl5).trans H5
    replace hB : Below w.heap.size w ((W.alloc (.cells #[.slice g.A1 g.n1 g.c1, .slice g.A2 g.n2 g.c2, .bool g.u] 56)).alloc (.cells #[.slice f.A1 f.n1 f.c1, .slice f.A2 f.n2 f.c2, .bool f.u] 56)).drew := (below_on hB hb2).drew
    clear hb2 H4 x0 x1 x2 x3 x4 x5 fx hl4 hl5
    generalize ((W.alloc (.cells #[.slice g.A1 g.n1 g.c1, .slice g.A2 g.n2 g.c2, .bool g.u] 56)).alloc (.cells #[.slice f.A1 f.n1 f.c1, .slice f.A2 f.n2 f.c2, .bool f.u] 56)).drew = W6 at H5 H7 H8 hB ⊢
    generalize W.heap.size + 1 = B7 at H7 ⊢
    generalize W.heap.size = B8 at H8 ⊢
    obtain ⟨xa0, xa1, xa2, fa0, fa1, fa2⟩ := three_cells H5; obtain ⟨xb0, xb1, xb2, fb0, fb1, fb2⟩ := three_cells H7; obtain ⟨xc0, xc1, xc2, fc0, fc1, fc2⟩ := three_cells H8
    cases r1 with
    | false =>
      go_wp2_with (first | (go_at_call 46; (with_reducible refine (KF.out _ hB).mono ?_); rintro e w1 ⟨rfl, hb1⟩; replace H5 := (hb1.block _ (lt_heap H5)).trans H5; replace H7 := (hb1.block _ (lt_heap H7)).trans H7; replace H8 := (hb1.block _ (lt_heap H8)).trans H8; replace hB := below_on hB hb1; clear hb1 xa0 fa0 xa1 fa1 xa2 fa2 xb0 fb0 xb1 fb1 xb2 fb2 xc0 fc0 xc1 fc1 xc2 fc2; obtain ⟨xa0, xa1, xa2, fa0, fa1, fa2⟩ := three_cells H5; obtain ⟨xb0, xb1, xb2, fb0, fb1, fb2⟩ := three_cells H7; obtain ⟨xc0, xc1, xc2, fc0, fc1, fc2⟩ := three_cells H8) | (go_at_call 46; (with_reducible refine (KG.out _ hB).mono ?_); rintro e w1 ⟨rfl, hb1⟩; replace H5 := (hb1.block _ (lt_heap H5)).trans H5; replace H7 := (hb1.block _ (lt_heap H7)).trans H7; replace H8 := (hb1.block _ (lt_heap H8)).trans H8; replace hB := below_on hB hb1; clear hb1 xa0 fa0 xa1 fa1 xa2 fa2 xb0 fb0 xb1 fb1 xb2 fb2 xc0 fc0 xc1 fc1 xc2 fc2; obtain ⟨xa0, xa1, xa2, fa0, fa1, fa2⟩ := three_cells H5; obtain ⟨xb0, xb1, xb2, fb0, fb1, fb2⟩ := three_cells H7; obtain ⟨xc0, xc1, xc2, fc0, fc1, fc2⟩ := three_cells H8) | (go_at_call 46; (with_reducible refine (KT.out _ hB).mono ?_); rintro e w1 ⟨rfl, hb1⟩; replace H5 := (hb1.block _ (lt_heap H5)).trans H5; replace H7 := (hb1.block _ (lt_heap H7)).trans H7; replace H8 := (hb1.block _ (lt_heap H8)).trans H8; replace hB := below_on hB hb1; clear hb1 xa0 fa0 xa1 fa1 xa2 fa2 xb0 fb0 xb1 fb1 xb2 fb2 xc0 fc0 xc1 fc1 xc2 fc2; obtain ⟨xa0, xa1, xa2, fa0, fa1, fa2⟩ := three_cells H5; obtain ⟨xb0, xb1, xb2, fb0, fb1, fb2⟩ := three_cells H7; obtain ⟨xc0, xc1, xc2, fc0, fc1, fc2⟩ := three_cells H8) | (go_at_call 53; (with_reducible refine (KRF.out _ hB).mono ?_); rintro e w1 ⟨rfl, hb1⟩; replace H5 := (hb1.block _ (lt_heap H5)).trans H5; replace H7 := (hb1.block _ (lt_heap H7)).trans H7; replace H8 := (hb1.block _ (lt_heap H8)).trans H8; replace hB := below_on hB hb1; clear hb1 xa0 fa0 xa1 fa1 xa2 fa2 xb0 fb0 xb1 fb1 xb2 fb2 xc0 fc0 xc1 fc1 xc2 fc2; obtain ⟨xa0, xa1, xa2, fa0, fa1, fa2⟩ := three_cells H5; obtain ⟨xb0, xb1, xb2, fb0, fb1, fb2⟩ := three_cells H7; obtain ⟨xc0, xc1, xc2, fc0, fc1, fc2⟩ := three_cells H8) | (go_at_call 53; (with_reducible refine (KRG.out _ hB).mono ?_); rintro e w1 ⟨rfl, hb1⟩; replace H5 := (hb1.block _ (lt_heap H5)).trans H5; replace H7 := (hb1.block _ (lt_heap H7)).trans H7; replace H8 := (hb1.block _ (lt_heap H8)).trans H8; replace hB := below_on hB hb1; clear hb1 xa0 fa0 xa1 fa1 xa2 fa2 xb0 fb0 xb1 fb1 xb2 fb2 xc0 fc0 xc1 fc1 xc2 fc2; obtain ⟨xa0, xa1, xa2, fa0, fa1, fa2⟩ := three_cells H5; obtain ⟨xb0, xb1, xb2, fb0, fb1, fb2⟩ := three_cells H7; obtain ⟨xc0, xc1, xc2, fc0, fc1, fc2⟩ := three_cells H8) | (go_at_call 53; (with_reducible refine (KRT.out _ hB).mono ?_); rintro e w1 ⟨rfl, hb1⟩; replace H5 := (hb1.block _ (lt_heap H5)).trans H5; replace H7 := (hb1.block _ (lt_heap H7)).trans H7; replace H8 := (hb1.block _ (lt_heap H8)).trans H8; replace hB := below_on hB hb1; clear hb1 xa0 fa0 xa1 fa1 xa2 fa2 xb0 fb0 xb1 fb1 xb2 fb2 xc0 fc0 xc1 fc1 xc2 fc2; obtain ⟨xa0, xa1, xa2, fa0, fa1, fa2⟩ := three_cells H5; obtain ⟨xb0, xb1, xb2, fb0, fb1, fb2⟩ := three_cells H7; obtain ⟨xc0, xc1, xc2, fc0, fc1, fc2⟩ := three_cells H8) | (go_at_call 50; (with_reducible refine (KAF.out _ hB (by assumption)).mono ?_); rintro e w1 ⟨rfl, hb1⟩; replace H5 := (hb1.block _ (lt_heap H5)).trans H5; replace H7 := (hb1.block _ (lt_heap H7)).trans H7; replace H8 := (hb1.block _ (lt_heap H8)).trans H8; replace hB := below_on hB hb1; clear hb1 xa0 fa0 xa1 fa1 xa2 fa2 xb0 fb0 xb1 fb1 xb2 fb2 xc0 fc0 xc1 fc1 xc2 fc2; obtain ⟨xa0, xa1, xa2, fa0, fa1, fa2⟩ := three_cells H5; obtain ⟨xb0, xb1, xb2, fb0, fb1, fb2⟩ := three_cells H7; obtain ⟨xc0, xc1, xc2, fc0, fc1, fc2⟩ := three_cells H8) | (go_at_call 50; (with_reducible refine (KAG.out _ hB (by assumption)).mono ?_); rintro e w1 ⟨rfl, hb1⟩; replace H5 := (hb1.block _ (lt_heap H5)).trans H5; replace H7 := (hb1.block _ (lt_heap H7)).trans H7; replace H8 := (hb1.block _ (lt_heap H8)).trans H8; replace hB := below_on hB hb1; clear hb1 xa0 fa0 xa1 fa1 xa2 fa2 xb0 fb0 xb1 fb1 xb2 fb2 xc0 fc0 xc1 fc1 xc2 fc2; obtain ⟨xa0, xa1, xa2, fa0, fa1, fa2⟩ := three_cells H5; obtain ⟨xb0, xb1, xb2, fb0, fb1, fb2⟩ := three_cells H7; obtain ⟨xc0, xc1, xc2, fc0, fc1, fc2⟩ := three_cells H8) | (go_at_call 41; (with_reducible refine (works18_any _).mono ?_); rintro e w1 ⟨rfl, hb1⟩; replace H5 := (hb1.block _ (lt_heap H5)).trans H5; replace H7 := (hb1.block _ (lt_heap H7)).trans H7; replace H8 := (hb1.block _ (lt_heap H8)).trans H8; replace hB := below_on hB hb1; clear hb1 xa0 fa0 xa1 fa1 xa2 fa2 xb0 fb0 xb1 fb1 xb2 fb2 xc0 fc0 xc1 fc1 xc2 fc2; obtain ⟨xa0, xa1, xa2, fa0, fa1, fa2⟩ := three_cells H5; obtain ⟨xb0, xb1, xb2, fb0, fb1, fb2⟩ := three_cells H7; obtain ⟨xc0, xc1, xc2, fc0, fc1, fc2⟩ := three_cells H8))
      go_ret
      exact ⟨rfl, hB⟩
    | true =>
      have hn20 : n ≤ 1000000 := by have := (HS.out rfl).1; omega
      cases r2 with
      | false =>
        go_wp2_with (first | (go_at_call 46; (with_reducible refine (KF.out _ hB).mono ?_); rintro e w1 ⟨rfl, hb1⟩; replace H5 := (hb1.block _ (lt_heap H5)).trans H5; replace H7 := (hb1.block _ (lt_heap H7)).trans H7; replace H8 := (hb1.block _ (lt_heap H8)).trans H8; replace hB := below_on hB hb1; clear hb1 xa0 fa0 xa1 fa1 xa2 fa2 xb0 fb0 xb1 fb1 xb2 fb2 xc0 fc0 xc1 fc1 xc2 fc2; obtain ⟨xa0, xa1, xa2, fa0, fa1, fa2⟩ := three_cells H5; obtain ⟨xb0, xb1, xb2, fb0, fb1, fb2⟩ := three_cells H7; obtain ⟨xc0, xc1, xc2, fc0, fc1, fc2⟩ := three_cells H8) | (go_at_call 46; (with_reducible refine (KG.out _ hB).mono ?_); rintro e w1 ⟨rfl, hb1⟩; replace H5 := (hb1.block _ (lt_heap H5)).trans H5; replace H7 := (hb1.block _ (lt_heap H7)).trans H7; replace H8 := (hb1.block _ (lt_heap H8)).trans H8; replace hB := below_on hB hb1; clear hb1 xa0 fa0 xa1 fa1 xa2 fa2 xb0 fb0 xb1 fb1 xb2 fb2 xc0 fc0 xc1 fc1 xc2 fc2; obtain ⟨xa0, xa1, xa2, fa0, fa1, fa2⟩ := three_cells H5; obtain ⟨xb0, xb1, xb2, fb0, fb1, fb2⟩ := three_cells H7; obtain ⟨xc0, xc1, xc2, fc0, fc1, fc2⟩ := three_cells H8) | (go_at_call 46; (with_reducible refine (KT.out _ hB).mono ?_); rintro e w1 ⟨rfl, hb1⟩; replace H5 := (hb1.block _ (lt_heap H5)).trans H5; replace H7 := (hb1.block _ (lt_heap H7)).trans H7; replace H8 := (hb1.block _ (lt_heap H8)).trans H8; replace hB := below_on hB hb1; clear hb1 xa0 fa0 xa1 fa1 xa2 fa2 xb0 fb0 xb1 fb1 xb2 fb2 xc0 fc0 xc1 fc1 xc2 fc2; obtain ⟨xa0, xa1, xa2, fa0, fa1, fa2⟩ := three_cells H5; obtain ⟨xb0, xb1, xb2, fb0, fb1, fb2⟩ := three_cells H7; obtain ⟨xc0, xc1, xc2, fc0, fc1, fc2⟩ := three_cells H8) | (go_at_call 53; (with_reducible refine (KRF.out _ hB).mono ?_); rintro e w1 ⟨rfl, hb1⟩; replace H5 := (hb1.block _ (lt_heap H5)).trans H5; replace H7 := (hb1.block _ (lt_heap H7)).trans H7; replace H8 := (hb1.block _ (lt_heap H8)).trans H8; replace hB := below_on hB hb1; clear hb1 xa0 fa0 xa1 fa1 xa2 fa2 xb0 fb0 xb1 fb1 xb2 fb2 xc0 fc0 xc1 fc1 xc2 fc2; obtain ⟨xa0, xa1, xa2, fa0, fa1, fa2⟩ := three_cells H5; obtain ⟨xb0, xb1, xb2, fb0, fb1, fb2⟩ := three_cells H7; obtain ⟨xc0, xc1, xc2, fc0, fc1, fc2⟩ := three_cells H8) | (go_at_call 53; (with_reducible refine (KRG.out _ hB).mono ?_); rintro e w1 ⟨rfl, hb1⟩; replace H5 := (hb1.block _ (lt_heap H5)).trans H5; replace H7 := (hb1.block _ (lt_heap H7)).trans H7; replace H8 := (hb1.block _ (lt_heap H8)).trans H8; replace hB := below_on hB hb1; clear hb1 xa0 fa0 xa1 fa1 xa2 fa2 xb0 fb0 xb1 fb1 xb2 fb2 xc0 fc0 xc1 fc1 xc2 fc2; obtain ⟨xa0, xa1, xa2, fa0, fa1, fa2⟩ := three_cells H5; obtain ⟨xb0, xb1, xb2, fb0, fb1, fb2⟩ := three_cells H7; obtain ⟨xc0, xc1, xc2, fc0, fc1, fc2⟩ := three_cells H8) | (go_at_call 53; (with_reducible refine (KRT.out _ hB).mono ?_); rintro e w1 ⟨rfl, hb1⟩; replace H5 := (hb1.block _ (lt_heap H5)).trans H5; replace H7 := (hb1.block _ (lt_heap H7)).trans H7; replace H8 := (hb1.block _ (lt_heap H8)).trans H8; replace hB := below_on hB hb1; clear hb1 xa0 fa0 xa1 fa1 xa2 fa2 xb0 fb0 xb1 fb1 xb2 fb2 xc0 fc0 xc1 fc1 xc2 fc2; obtain ⟨xa0, xa1, xa2, fa0, fa1, fa2⟩ := three_cells H5; obtain ⟨xb0, xb1, xb2, fb0, fb1, fb2⟩ := three_cells H7; obtain ⟨xc0, xc1, xc2, fc0, fc1, fc2⟩ := three_cells H8) | (go_at_call 50; (with_reducible refine (KAF.out _ hB hn20).mono ?_); rintro e w1 ⟨rfl, hb1⟩; replace H5 := (hb1.block _ (lt_heap H5)).trans H5; replace H7 := (hb1.block _ (lt_heap H7)).trans H7; replace H8 := (hb1.block _ (lt_heap H8)).trans H8; replace hB := below_on hB hb1; clear hb1 xa0 fa0 xa1 fa1 xa2 fa2 xb0 fb0 xb1 fb1 xb2 fb2 xc0 fc0 xc1 fc1 xc2 fc2; obtain ⟨xa0, xa1, xa2, fa0, fa1, fa2⟩ := three_cells H5; obtain ⟨xb0, xb1, xb2, fb0, fb1, fb2⟩ := three_cells H7; obtain ⟨xc0, xc1, xc2, fc0, fc1, fc2⟩ := three_cells H8) | (go_at_call 50; (with_reducible refine (KAG.out _ hB hn20).mono ?_); rintro e w1 ⟨rfl, hb1⟩; replace H5 := (hb1.block _ (lt_heap H5)).trans H5; replace H7 := (hb1.block _ (lt_heap H7)).trans H7; replace H8 := (hb1.block _ (lt_heap H8)).trans H8; replace hB := below_on hB hb1; clear hb1 xa0 fa0 xa1 fa1 xa2 fa2 xb0 fb0 xb1 fb1 xb2 fb2 xc0 fc0 xc1 fc1 xc2 fc2; obtain ⟨xa0, xa1, xa2, fa0, fa1, fa2⟩ := three_cells H5; obtain ⟨xb0, xb1, xb2, fb0, fb1, fb2⟩ := three_cells H7; obtain ⟨xc0, xc1, xc2, fc0, fc1, fc2⟩ := three_cells H8) | (go_at_call 41; (with_reducible refine (works18_any _).mono ?_); rintro e w1 ⟨rfl, hb1⟩; replace H5 := (hb1.block _ (lt_heap H5)).trans H5; replace H7 := (hb1.block _ (lt_heap H7)).trans H7; replace H8 := (hb1.block _ (lt_heap H8)).trans H8; replace hB := below_on hB hb1; clear hb1 xa0 fa0 xa1 fa1 xa2 fa2 xb0 fb0 xb1 fb1 xb2 fb2 xc0 fc0 xc1 fc1 xc2 fc2; obtain ⟨xa0, xa1, xa2, fa0, fa1, fa2⟩ := three_cells H5; obtain ⟨xb0, xb1, xb2, fb0, fb1, fb2⟩ := three_cells H7; obtain ⟨xc0, xc1, xc2, fc0, fc1, fc2⟩ := three_cells H8))
        go_ret
        exact ⟨rfl, hB⟩
      | true =>
        cases r3 with
        | false =>
          go_wp2_with (first | (go_at_call 46; (with_reducible refine (KF.out _ hB).mono ?_); rintro e w1 ⟨rfl, hb1⟩; replace H5 := (hb1.block _ (lt_heap H5)).trans H5; replace H7 := (hb1.block _ (lt_heap H7)).trans H7; replace H8 := (hb1.block _ (lt_heap H8)).trans H8; replace hB := below_on hB hb1; clear hb1 xa0 fa0 xa1 fa1 xa2 fa2 xb0 fb0 xb1 fb1 xb2 fb2 xc0 fc0 xc1 fc1 xc2 fc2; obtain ⟨xa0, xa1, xa2, fa0, fa1, fa2⟩ := three_cells H5; obtain ⟨xb0, xb1, xb2, fb0, fb1, fb2⟩ := three_cells H7; obtain ⟨xc0, xc1, xc2, fc0, fc1, fc2⟩ := three_cells H8) | (go_at_call 46; (with_reducible refine (KG.out _ hB).mono ?_); rintro e w1 ⟨rfl, hb1⟩; replace H5 := (hb1.block _ (lt_heap H5)).trans H5; replace H7 := (hb1.block _ (lt_heap H7)).trans H7; replace H8 := (hb1.block _ (lt_heap H8)).trans H8; replace hB := below_on hB hb1; clear hb1 xa0 fa0 xa1 fa1 xa2 fa2 xb0 fb0 xb1 fb1 xb2 fb2 xc0 fc0 xc1 fc1 xc2 fc2; obtain ⟨xa0, xa1, xa2, fa0, fa1, fa2⟩ := three_cells H5; obtain ⟨xb0, xb1, xb2, fb0, fb1, fb2⟩ := three_cells H7; obtain ⟨xc0, xc1, xc2, fc0, fc1, fc2⟩ := three_cells H8) | (go_at_call 46; (with_reducible refine (KT.out _ hB).mono ?_); rintro e w1 ⟨rfl, hb1⟩; replace H5 := (hb1.block _ (lt_heap H5)).trans H5; replace H7 := (hb1.block _ (lt_heap H7)).trans H7; replace H8 := (hb1.block _ (lt_heap H8)).trans H8; replace hB := below_on hB hb1; clear hb1 xa0 fa0 xa1 fa1 xa2 fa2 xb0 fb0 xb1 fb1 xb2 fb2 xc0 fc0 xc1 fc1 xc2 fc2; obtain ⟨xa0, xa1, xa2, fa0, fa1, fa2⟩ := three_cells H5; obtain ⟨xb0, xb1, xb2, fb0, fb1, fb2⟩ := three_cells H7; obtain ⟨xc0, xc1, xc2, fc0, fc1, fc2⟩ := three_cells H8) | (go_at_call 53; (with_reducible refine (KRF.out _ hB).mono ?_); rintro e w1 ⟨rfl, hb1⟩; replace H5 := (hb1.block _ (lt_heap H5)).trans H5; replace H7 := (hb1.block _ (lt_heap H7)).trans H7; replace H8 := (hb1.block _ (lt_heap H8)).trans H8; replace hB := below_on hB hb1; clear hb1 xa0 fa0 xa1 fa1 xa2 fa2 xb0 fb0 xb1 fb1 xb2 fb2 xc0 fc0 xc1 fc1 xc2 fc2; obtain ⟨xa0, xa1, xa2, fa0, fa1, fa2⟩ := three_cells H5; obtain ⟨xb0, xb1, xb2, fb0, fb1, fb2⟩ := three_cells H7; obtain ⟨xc0, xc1, xc2, fc0, fc1, fc2⟩ := three_cells H8) | (go_at_call 53; (with_reducible refine (KRG.out _ hB).mono ?_); rintro e w1 ⟨rfl, hb1⟩; replace H5 := (hb1.block _ (lt_heap H5)).trans H5; replace H7 := (hb1.block _ (lt_heap H7)).trans H7; replace H8 := (hb1.block _ (lt_heap H8)).trans H8; replace hB := below_on hB hb1; clear hb1 xa0 fa0 xa1 fa1 xa2 fa2 xb0 fb0 xb1 fb1 xb2 fb2 xc0 fc0 xc1 fc1 xc2 fc2; obtain ⟨xa0, xa1, xa2, fa0, fa1, fa2⟩ := three_cells H5; obtain ⟨xb0, xb1, xb2, fb0, fb1, fb2⟩ := three_cells H7; obtain ⟨xc0, xc1, xc2, fc0, fc1, fc2⟩ := three_cells H8) | (go_at_call 53; (with_reducible refine (KRT.out _ hB).mono ?_); rintro e w1 ⟨rfl, hb1⟩; replace H5 := (hb1.block _ (lt_heap H5)).trans H5; replace H7 := (hb1.block _ (lt_heap H7)).trans H7; replace H8 := (hb1.block _ (lt_heap H8)).trans H8; replace hB := below_on hB hb1; clear hb1 xa0 fa0 xa1 fa1 xa2 fa2 xb0 fb0 xb1 fb1 xb2 fb2 xc0 fc0 xc1 fc1 xc2 fc2; obtain ⟨xa0, xa1, xa2, fa0, fa1, fa2⟩ := three_cells H5; obtain ⟨xb0, xb1, xb2, fb0, fb1, fb2⟩ := three_cells H7; obtain ⟨xc0, xc1, xc2, fc0, fc1, fc2⟩ := three_cells H8) | (go_at_call 50; (with_reducible refine (KAF.out _ hB hn20).mono ?_); rintro e w1 ⟨rfl, hb1⟩; replace H5 := (hb1.block _ (lt_heap H5)).trans H5; replace H7 := (hb1.block _ (lt_heap H7)).trans H7; replace H8 := (hb1.block _ (lt_heap H8)).trans H8; replace hB := below_on hB hb1; clear hb1 xa0 fa0 xa1 fa1 xa2 fa2 xb0 fb0 xb1 fb1 xb2 fb2 xc0 fc0 xc1 fc1 xc2 fc2; obtain ⟨xa0, xa1, xa2, fa0, fa1, fa2⟩ := three_cells H5; obtain ⟨xb0, xb1, xb2, fb0, fb1, fb2⟩ := three_cells H7; obtain ⟨xc0, xc1, xc2, fc0, fc1, fc2⟩ := three_cells H8) | (go_at_call 50; (with_reducible refine (KAG.out _ hB hn20).mono ?_); rintro e w1 ⟨rfl, hb1⟩; replace H5 := (hb1.block _ (lt_heap H5)).trans H5; replace H7 := (hb1.block _ (lt_heap H7)).trans H7; replace H8 := (hb1.block _ (lt_heap H8)).trans H8; replace hB := below_on hB hb1; clear hb1 xa0 fa0 xa1 fa1 xa2 fa2 xb0 fb0 xb1 fb1 xb2 fb2 xc0 fc0 xc1 fc1 xc2 fc2; obtain ⟨xa0, xa1, xa2, fa0, fa1, fa2⟩ := three_cells H5; obtain ⟨xb0, xb1, xb2, fb0, fb1, fb2⟩ := three_cells H7; obtain ⟨xc0, xc1, xc2, fc0, fc1, fc2⟩ := three_cells H8) | (go_at_call 41; (with_reducible refine (works18_any _).mono ?_); rintro e w1 ⟨rfl, hb1⟩; replace H5 := (hb1.block _ (lt_heap H5)).trans H5; replace H7 := (hb1.block _ (lt_heap H7)).trans H7; replace H8 := (hb1.block _ (lt_heap H8)).trans H8; replace hB := below_on hB hb1; clear hb1 xa0 fa0 xa1 fa1 xa2 fa2 xb0 fb0 xb1 fb1 xb2 fb2 xc0 fc0 xc1 fc1 xc2 fc2; obtain ⟨xa0, xa1, xa2, fa0, fa1, fa2⟩ := three_cells H5; obtain ⟨xb0, xb1, xb2, fb0, fb1, fb2⟩ := three_cells H7; obtain ⟨xc0, xc1, xc2, fc0, fc1, fc2⟩ := three_cells H8))
          go_ret
          exact ⟨rfl, hB⟩
        | true =>
          cases q1 with
          | false =>
            go_wp2_with (first | (go_at_call 46; (with_reducible refine (KF.out _ hB).mono ?_); rintro e w1 ⟨rfl, hb1⟩; replace H5 := (hb1.block _ (lt_heap H5)).trans H5; replace H7 := (hb1.block _ (lt_heap H7)).trans H7; replace H8 := (hb1.block _ (lt_heap H8)).trans H8; replace hB := below_on hB hb1; clear hb1 xa0 fa0 xa1 fa1 xa2 fa2 xb0 fb0 xb1 fb1 xb2 fb2 xc0 fc0 xc1 fc1 xc2 fc2; obtain ⟨xa0, xa1, xa2, fa0, fa1, fa2⟩ := three_cells H5; obtain ⟨xb0, xb1, xb2, fb0, fb1, fb2⟩ := three_cells H7; obtain ⟨xc0, xc1, xc2, fc0, fc1, fc2⟩ := three_cells H8) | (go_at_call 46; (with_reducible refine (KG.out _ hB).mono ?_); rintro e w1 ⟨rfl, hb1⟩; replace H5 := (hb1.block _ (lt_heap H5)).trans H5; replace H7 := (hb1.block _ (lt_heap H7)).trans H7; replace H8 := (hb1.block _ (lt_heap H8)).trans H8; replace hB := below_on hB hb1; clear hb1 xa0 fa0 xa1 fa1 xa2 fa2 xb0 fb0 xb1 fb1 xb2 fb2 xc0 fc0 xc1 fc1 xc2 fc2; obtain ⟨xa0, xa1, xa2, fa0, fa1, fa2⟩ := three_cells H5; obtain ⟨xb0, xb1, xb2, fb0, fb1, fb2⟩ := three_cells H7; obtain ⟨xc0, xc1, xc2, fc0, fc1, fc2⟩ := three_cells H8) | (go_at_call 46; (with_reducible refine (KT.out _ hB).mono ?_); rintro e w1 ⟨rfl, hb1⟩; replace H5 := (hb1.block _ (lt_heap H5)).trans H5; replace H7 := (hb1.block _ (lt_heap H7)).trans H7; replace H8 := (hb1.block _ (lt_heap H8)).trans H8; replace hB := below_on hB hb1; clear hb1 xa0 fa0 xa1 fa1 xa2 fa2 xb0 fb0 xb1 fb1 xb2 fb2 xc0 fc0 xc1 fc1 xc2 fc2; obtain ⟨xa0, xa1, xa2, fa0, fa1, fa2⟩ := three_cells H5; obtain ⟨xb0, xb1, xb2, fb0, fb1, fb2⟩ := three_cells H7; obtain ⟨xc0, xc1, xc2, fc0, fc1, fc2⟩ := three_cells H8) | (go_at_call 53; (with_reducible refine (KRF.out _ hB).mono ?_); rintro e w1 ⟨rfl, hb1⟩; replace H5 := (hb1.block _ (lt_heap H5)).trans H5; replace H7 := (hb1.block _ (lt_heap H7)).trans H7; replace H8 := (hb1.block _ (lt_heap H8)).trans H8; replace hB := below_on hB hb1; clear hb1 xa0 fa0 xa1 fa1 xa2 fa2 xb0 fb0 xb1 fb1 xb2 fb2 xc0 fc0 xc1 fc1 xc2 fc2; obtain ⟨xa0, xa1, xa2, fa0, fa1, fa2⟩ := three_cells H5; obtain ⟨xb0, xb1, xb2, fb0, fb1, fb2⟩ := three_cells H7; obtain ⟨xc0, xc1, xc2, fc0, fc1, fc2⟩ := three_cells H8) | (go_at_call 53; (with_reducible refine (KRG.out _ hB).mono ?_); rintro e w1 ⟨rfl, hb1⟩; replace H5 := (hb1.block _ (lt_heap H5)).trans H5; replace H7 := (hb1.block _ (lt_heap H7)).trans H7; replace H8 := (hb1.block _ (lt_heap H8)).trans H8; replace hB := below_on hB hb1; clear hb1 xa0 fa0 xa1 fa1 xa2 fa2 xb0 fb0 xb1 fb1 xb2 fb2 xc0 fc0 xc1 fc1 xc2 fc2; obtain ⟨xa0, xa1, xa2, fa0, fa1, fa2⟩ := three_cells H5; obtain ⟨xb0, xb1, xb2, fb0, fb1, fb2⟩ := three_cells H7; obtain ⟨xc0, xc1, xc2, fc0, fc1, fc2⟩ := three_cells H8) | (go_at_call 53; (with_reducible refine (KRT.out _ hB).mono ?_); rintro e w1 ⟨rfl, hb1⟩; replace H5 := (hb1.block _ (lt_heap H5)).trans H5; replace H7 := (hb1.block _ (lt_heap H7)).trans H7; replace H8 := (hb1.block _ (lt_heap H8)).trans H8; replace hB := below_on hB hb1; clear hb1 xa0 fa0 xa1 fa1 xa2 fa2 xb0 fb0 xb1 fb1 xb2 fb2 xc0 fc0 xc1 fc1 xc2 fc2; obtain ⟨xa0, xa1, xa2, fa0, fa1, fa2⟩ := three_cells H5; obtain ⟨xb0, xb1, xb2, fb0, fb1, fb2⟩ := three_cells H7; obtain ⟨xc0, xc1, xc2, fc0, fc1, fc2⟩ := three_cells H8) | (go_at_call 50; (with_reducible refine (KAF.out _ hB hn20).mono ?_); rintro e w1 ⟨rfl, hb1⟩; replace H5 := (hb1.block _ (lt_heap H5)).trans H5; replace H7 := (hb1.block _ (lt_heap H7)).trans H7; replace H8 := (hb1.block _ (lt_heap H8)).trans H8; replace hB := below_on hB hb1; clear hb1 xa0 fa0 xa1 fa1 xa2 fa2 xb0 fb0 xb1 fb1 xb2 fb2 xc0 fc0 xc1 fc1 xc2 fc2; obtain ⟨xa0, xa1, xa2, fa0, fa1, fa2⟩ := three_cells H5; obtain ⟨xb0, xb1, xb2, fb0, fb1, fb2⟩ := three_cells H7; obtain ⟨xc0, xc1, xc2, fc0, fc1, fc2⟩ := three_cells H8) | (go_at_call 50; (with_reducible refine (KAG.out _ hB hn20).mono ?_); rintro e w1 ⟨rfl, hb1⟩; replace H5 := (hb1.block _ (lt_heap H5)).trans H5; replace H7 := (hb1.block _ (lt_heap H7)).trans H7; replace H8 := (hb1.block _ (lt_heap H8)).trans H8; replace hB := below_on hB hb1; clear hb1 xa0 fa0 xa1 fa1 xa2 fa2 xb0 fb0 xb1 fb1 xb2 fb2 xc0 fc0 xc1 fc1 xc2 fc2; obtain ⟨xa0, xa1, xa2, fa0, fa1, fa2⟩ := three_cells H5; obtain ⟨xb0, xb1, xb2, fb0, fb1, fb2⟩ := three_cells H7; obtain ⟨xc0, xc1, xc2, fc0, fc1, fc2⟩ := three_cells H8) | (go_at_call 41; (with_reducible refine (works18_any _).mono ?_); rintro e w1 ⟨rfl, hb1⟩; replace H5 := (hb1.block _ (lt_heap H5)).trans H5; replace H7 := (hb1.block _ (lt_heap H7)).trans H7; replace H8 := (hb1.block _ (lt_heap H8)).trans H8; replace hB := below_on hB hb1; clear hb1 xa0 fa0 xa1 fa1 xa2 fa2 xb0 fb0 xb1 fb1 xb2 fb2 xc0 fc0 xc1 fc1 xc2 fc2; obtain ⟨xa0, xa1, xa2, fa0, fa1, fa2⟩ := three_cells H5; obtain ⟨xb0, xb1, xb2, fb0, fb1, fb2⟩ := three_cells H7; obtain ⟨xc0, xc1, xc2, fc0, fc1, fc2⟩ := three_cells H8))
            go_ret
            exact ⟨rfl, hB⟩
          | true =>
            cases q2 with
            | false =>
              go_wp2_with (first | (go_at_call 46; (with_reducible refine (KF.out _ hB).mono ?_); rintro e w1 ⟨rfl, hb1⟩; replace H5 := (hb1.block _ (lt_heap H5)).trans H5; replace H7 := (hb1.block _ (lt_heap H7)).trans H7; replace H8 := (hb1.block _ (lt_heap H8)).trans H8; replace hB := below_on hB hb1; clear hb1 xa0 fa0 xa1 fa1 xa2 fa2 xb0 fb0 xb1 fb1 xb2 fb2 xc0 fc0 xc1 fc1 xc2 fc2; obtain ⟨xa0, xa1, xa2, fa0, fa1, fa2⟩ := three_cells H5; obtain ⟨xb0, xb1, xb2, fb0, fb1, fb2⟩ := three_cells H7; obtain ⟨xc0, xc1, xc2, fc0, fc1, fc2⟩ := three_cells H8) | (go_at_call 46; (with_reducible refine (KG.out _ hB).mono ?_); rintro e w1 ⟨rfl, hb1⟩; replace H5 := (hb1.block _ (lt_heap H5)).trans H5; replace H7 := (hb1.block _ (lt_heap H7)).trans H7; replace H8 := (hb1.block _ (lt_heap H8)).trans H8; replace hB := below_on hB hb1; clear hb1 xa0 fa0 xa1 fa1 xa2 fa2 xb0 fb0 xb1 fb1 xb2 fb2 xc0 fc0 xc1 fc1 xc2 fc2; obtain ⟨xa0, xa1, xa2, fa0, fa1, fa2⟩ := three_cells H5; obtain ⟨xb0, xb1, xb2, fb0, fb1, fb2⟩ := three_cells H7; obtain ⟨xc0, xc1, xc2, fc0, fc1, fc2⟩ := three_cells H8) | (go_at_call 46; (with_reducible refine (KT.out _ hB).mono ?_); rintro e w1 ⟨rfl, hb1⟩; replace H5 := (hb1.block _ (lt_heap H5)).trans H5; replace H7 := (hb1.block _ (lt_heap H7)).trans H7; replace H8 := (hb1.block _ (lt_heap H8)).trans H8; replace hB := below_on hB hb1; clear hb1 xa0 fa0 xa1 fa1 xa2 fa2 xb0 fb0 xb1 fb1 xb2 fb2 xc0 fc0 xc1 fc1 xc2 fc2; obtain ⟨xa0, xa1, xa2, fa0, fa1, fa2⟩ := three_cells H5; obtain ⟨xb0, xb1, xb2, fb0, fb1, fb2⟩ := three_cells H7; obtain ⟨xc0, xc1, xc2, fc0, fc1, fc2⟩ := three_cells H8) | (go_at_call 53; (with_reducible refine (KRF.out _ hB).mono ?_); rintro e w1 ⟨rfl, hb1⟩; replace H5 := (hb1.block _ (lt_heap H5)).trans H5; replace H7 := (hb1.block _ (lt_heap H7)).trans H7; replace H8 := (hb1.block _ (lt_heap H8)).trans H8; replace hB := below_on hB hb1; clear hb1 xa0 fa0 xa1 fa1 xa2 fa2 xb0 fb0 xb1 fb1 xb2 fb2 xc0 fc0 xc1 fc1 xc2 fc2; obtain ⟨xa0, xa1, xa2, fa0, fa1, fa2⟩ := three_cells H5; obtain ⟨xb0, xb1, xb2, fb0, fb1, fb2⟩ := three_cells H7; obtain ⟨xc0, xc1, xc2, fc0, fc1, fc2⟩ := three_cells H8) | (go_at_call 53; (with_reducible refine (KRG.out _ hB).mono ?_); rintro e w1 ⟨rfl, hb1⟩; replace H5 := (hb1.block _ (lt_heap H5)).trans H5; replace H7 := (hb1.block _ (lt_heap H7)).trans H7; replace H8 := (hb1.block _ (lt_heap H8)).trans H8; replace hB := below_on hB hb1; clear hb1 xa0 fa0 xa1 fa1 xa2 fa2 xb0 fb0 xb1 fb1 xb2 fb2 xc0 fc0 xc1 fc1 xc2 fc2; obtain ⟨xa0, xa1, xa2, fa0, fa1, fa2⟩ := three_cells H5; obtain ⟨xb0, xb1, xb2, fb0, fb1, fb2⟩ := three_cells H7; obtain ⟨xc0, xc1, xc2, fc0, fc1, fc2⟩ := three_cells H8) | (go_at_call 53; (with_reducible refine (KRT.out _ hB).mono ?_); rintro e w1 ⟨rfl, hb1⟩; replace H5 := (hb1.block _ (lt_heap H5)).trans H5; replace H7 := (hb1.block _ (lt_heap H7)).trans H7; replace H8 := (hb1.block _ (lt_heap H8)).trans H8; replace hB := below_on hB hb1; clear hb1 xa0 fa0 xa1 fa1 xa2 fa2 xb0 fb0 xb1 fb1 xb2 fb2 xc0 fc0 xc1 fc1 xc2 fc2; obtain ⟨xa0, xa1, xa2, fa0, fa1, fa2⟩ := three_cells H5; obtain ⟨xb0, xb1, xb2, fb0, fb1, fb2⟩ := three_cells H7; obtain ⟨xc0, xc1, xc2, fc0, fc1, fc2⟩ := three_cells H8) | (go_at_call 50; (with_reducible refine (KAF.out _ hB hn20).mono ?_); rintro e w1 ⟨rfl, hb1⟩; replace H5 := (hb1.block _ (lt_heap H5)).trans H5; replace H7 := (hb1.block _ (lt_heap H7)).trans H7; replace H8 := (hb1.block _ (lt_heap H8)).trans H8; replace hB := below_on hB hb1; clear hb1 xa0 fa0 xa1 fa1 xa2 fa2 xb0 fb0 xb1 fb1 xb2 fb2 xc0 fc0 xc1 fc1 xc2 fc2; obtain ⟨xa0, xa1, xa2, fa0, fa1, fa2⟩ := three_cells H5; obtain ⟨xb0, xb1, xb2, fb0, fb1, fb2⟩ := three_cells H7; obtain ⟨xc0, xc1, xc2, fc0, fc1, fc2⟩ := three_cells H8) | (go_at_call 50; (with_reducible refine (KAG.out _ hB hn20).mono ?_); rintro e w1 ⟨rfl, hb1⟩; replace H5 := (hb1.block _ (lt_heap H5)).trans H5; replace H7 := (hb1.block _ (lt_heap H7)).trans H7; replace H8 := (hb1.block _ (lt_heap H8)).trans H8; replace hB := below_on hB hb1; clear hb1 xa0 fa0 xa1 fa1 xa2 fa2 xb0 fb0 xb1 fb1 xb2 fb2 xc0 fc0 xc1 fc1 xc2 fc2; obtain ⟨xa0, xa1, xa2, fa0, fa1, fa2⟩ := three_cells H5; obtain ⟨xb0, xb1, xb2, fb0, fb1, fb2⟩ := three_cells H7; obtain ⟨xc0, xc1, xc2, fc0, fc1, fc2⟩ := three_cells H8) | (go_at_call 41; (with_reducible refine (works18_any _).mono ?_); rintro e w1 ⟨rfl, hb1⟩; replace H5 := (hb1.block _ (lt_heap H5)).trans H5; replace H7 := (hb1.block _ (lt_heap H7)).trans H7; replace H8 := (hb1.block _ (lt_heap H8)).trans H8; replace hB := below_on hB hb1; clear hb1 xa0 fa0 xa1 fa1 xa2 fa2 xb0 fb0 xb1 fb1 xb2 fb2 xc0 fc0 xc1 fc1 xc2 fc2; obtain ⟨xa0, xa1, xa2, fa0, fa1, fa2⟩ := three_cells H5; obtain ⟨xb0, xb1, xb2, fb0, fb1, fb2⟩ := three_cells H7; obtain ⟨xc0, xc1, xc2, fc0, fc1, fc2⟩ := three_cells H8))
              go_ret
              exact ⟨rfl, hB⟩
            | true =>
              cases q3 with
              | false =>
                go_wp2_with (first | (go_at_call 46; (with_reducible refine (KF.out _ hB).mono ?_); rintro e w1 ⟨rfl, hb1⟩; replace H5 := (hb1.block _ (lt_heap H5)).trans H5; replace H7 := (hb1.block _ (lt_heap H7)).trans H7; replace H8 := (hb1.block _ (lt_heap H8)).trans H8; replace hB := below_on hB hb1; clear hb1 xa0 fa0 xa1 fa1 xa2 fa2 xb0 fb0 xb1 fb1 xb2 fb2 xc0 fc0 xc1 fc1 xc2 fc2; obtain ⟨xa0, xa1, xa2, fa0, fa1, fa2⟩ := three_cells H5; obtain ⟨xb0, xb1, xb2, fb0, fb1, fb2⟩ := three_cells H7; obtain ⟨xc0, xc1, xc2, fc0, fc1, fc2⟩ := three_cells H8) | (go_at_call 46; (with_reducible refine (KG.out _ hB).mono ?_); rintro e w1 ⟨rfl, hb1⟩; replace H5 := (hb1.block _ (lt_heap H5)).trans H5; replace H7 := (hb1.block _ (lt_heap H7)).trans H7; replace H8 := (hb1.block _ (lt_heap H8)).trans H8; replace hB := below_on hB hb1; clear hb1 xa0 fa0 xa1 fa1 xa2 fa2 xb0 fb0 xb1 fb1 xb2 fb2 xc0 fc0 xc1 fc1 xc2 fc2; obtain ⟨xa0, xa1, xa2, fa0, fa1, fa2⟩ := three_cells H5; obtain ⟨xb0, xb1, xb2, fb0, fb1, fb2⟩ := three_cells H7; obtain ⟨xc0, xc1, xc2, fc0, fc1, fc2⟩ := three_cells H8) | (go_at_call 46; (with_reducible refine (KT.out _ hB).mono ?_); rintro e w1 ⟨rfl, hb1⟩; replace H5 := (hb1.block _ (lt_heap H5)).trans H5; replace H7 := (hb1.block _ (lt_heap H7)).trans H7; replace H8 := (hb1.block _ (lt_heap H8)).trans H8; replace hB := below_on hB hb1; clear hb1 xa0 fa0 xa1 fa1 xa2 fa2 xb0 fb0 xb1 fb1 xb2 fb2 xc0 fc0 xc1 fc1 xc2 fc2; obtain ⟨xa0, xa1, xa2, fa0, fa1, fa2⟩ := three_cells H5; obtain ⟨xb0, xb1, xb2, fb0, fb1, fb2⟩ := three_cells H7; obtain ⟨xc0, xc1, xc2, fc0, fc1, fc2⟩ := three_cells H8) | (go_at_call 53; (with_reducible refine (KRF.out _ hB).mono ?_); rintro e w1 ⟨rfl, hb1⟩; replace H5 := (hb1.block _ (lt_heap H5)).trans H5; replace H7 := (hb1.block _ (lt_heap H7)).trans H7; replace H8 := (hb1.block _ (lt_heap H8)).trans H8; replace hB := below_on hB hb1; clear hb1 xa0 fa0 xa1 fa1 xa2 fa2 xb0 fb0 xb1 fb1 xb2 fb2 xc0 fc0 xc1 fc1 xc2 fc2; obtain ⟨xa0, xa1, xa2, fa0, fa1, fa2⟩ := three_cells H5; obtain ⟨xb0, xb1, xb2, fb0, fb1, fb2⟩ := three_cells H7; obtain ⟨xc0, xc1, xc2, fc0, fc1, fc2⟩ := three_cells H8) | (go_at_call 53; (with_reducible refine (KRG.out _ hB).mono ?_); rintro e w1 ⟨rfl, hb1⟩; replace H5 := (hb1.block _ (lt_heap H5)).trans H5; replace H7 := (hb1.block _ (lt_heap H7)).trans H7; replace H8 := (hb1.block _ (lt_heap H8)).trans H8; replace hB := below_on hB hb1; clear hb1 xa0 fa0 xa1 fa1 xa2 fa2 xb0 fb0 xb1 fb1 xb2 fb2 xc0 fc0 xc1 fc1 xc2 fc2; obtain ⟨xa0, xa1, xa2, fa0, fa1, fa2⟩ := three_cells H5; obtain ⟨xb0, xb1, xb2, fb0, fb1, fb2⟩ := three_cells H7; obtain ⟨xc0, xc1, xc2, fc0, fc1, fc2⟩ := three_cells H8) | (go_at_call 53; (with_reducible refine (KRT.out _ hB).mono ?_); rintro e w1 ⟨rfl, hb1⟩; replace H5 := (hb1.block _ (lt_heap H5)).trans H5; replace H7 := (hb1.block _ (lt_heap H7)).trans H7; replace H8 := (hb1.block _ (lt_heap H8)).trans H8; replace hB := below_on hB hb1; clear hb1 xa0 fa0 xa1 fa1 xa2 fa2 xb0 fb0 xb1 fb1 xb2 fb2 xc0 fc0 xc1 fc1 xc2 fc2; obtain ⟨xa0, xa1, xa2, fa0, fa1, fa2⟩ := three_cells H5; obtain ⟨xb0, xb1, xb2, fb0, fb1, fb2⟩ := three_cells H7; obtain ⟨xc0, xc1, xc2, fc0, fc1, fc2⟩ := three_cells H8) | (go_at_call 50; (with_reducible refine (KAF.out _ hB hn20).mono ?_); rintro e w1 ⟨rfl, hb1⟩; replace H5 := (hb1.block _ (lt_heap H5)).trans H5; replace H7 := (hb1.block _ (lt_heap H7)).trans H7; replace H8 := (hb1.block _ (lt_heap H8)).trans H8; replace hB := below_on hB hb1; clear hb1 xa0 fa0 xa1 fa1 xa2 fa2 xb0 fb0 xb1 fb1 xb2 fb2 xc0 fc0 xc1 fc1 xc2 fc2; obtain ⟨xa0, xa1, xa2, fa0, fa1, fa2⟩ := three_cells H5; obtain ⟨xb0, xb1, xb2, fb0, fb1, fb2⟩ := three_cells H7; obtain ⟨xc0, xc1, xc2, fc0, fc1, fc2⟩ := three_cells H8) | (go_at_call 50; (with_reducible refine (KAG.out _ hB hn20).mono ?_); rintro e w1 ⟨rfl, hb1⟩; replace H5 := (hb1.block _ (lt_heap H5)).trans H5; replace H7 := (hb1.block _ (lt_heap H7)).trans H7; replace H8 := (hb1.block _ (lt_heap H8)).trans H8; replace hB := below_on hB hb1; clear hb1 xa0 fa0 xa1 fa1 xa2 fa2 xb0 fb0 xb1 fb1 xb2 fb2 xc0 fc0 xc1 fc1 xc2 fc2; obtain ⟨xa0, xa1, xa2, fa0, fa1, fa2⟩ := three_cells H5; obtain ⟨xb0, xb1, xb2, fb0, fb1, fb2⟩ := three_cells H7; obtain ⟨xc0, xc1, xc2, fc0, fc1, fc2⟩ := three_cells H8) | (go_at_call 41; (with_reducible refine (works18_any _).mono ?_); rintro e w1 ⟨rfl, hb1⟩; replace H5 := (hb1.block _ (lt_heap H5)).trans H5; replace H7 := (hb1.block _ (lt_heap H7)).trans H7; replace H8 := (hb1.block _ (lt_heap H8)).trans H8; replace hB := below_on hB hb1; clear hb1 xa0 fa0 xa1 fa1 xa2 fa2 xb0 fb0 xb1 fb1 xb2 fb2 xc0 fc0 xc1 fc1 xc2 fc2; obtain ⟨xa0, xa1, xa2, fa0, fa1, fa2⟩ := three_cells H5; obtain ⟨xb0, xb1, xb2, fb0, fb1, fb2⟩ := three_cells H7; obtain ⟨xc0, xc1, xc2, fc0, fc1, fc2⟩ := three_cells H8))
                go_ret
                exact ⟨rfl, hB⟩
              | true =>
                cases s1 with
                | false =>
                  go_wp2_with (first | (go_at_call 46; (with_reducible refine (KF.out _ hB).mono ?_); rintro e w1 ⟨rfl, hb1⟩; replace H5 := (hb1.block _ (lt_heap H5)).trans H5; replace H7 := (hb1.block _ (lt_heap H7)).trans H7; replace H8 := (hb1.block _ (lt_heap H8)).trans H8; replace hB := below_on hB hb1; clear hb1 xa0 fa0 xa1 fa1 xa2 fa2 xb0 fb0 xb1 fb1 xb2 fb2 xc0 fc0 xc1 fc1 xc2 fc2; obtain ⟨xa0, xa1, xa2, fa0, fa1, fa2⟩ := three_cells H5; obtain ⟨xb0, xb1, xb2, fb0, fb1, fb2⟩ := three_cells H7; obtain ⟨xc0, xc1, xc2, fc0, fc1, fc2⟩ := three_cells H8) | (go_at_call 46; (with_reducible refine (KG.out _ hB).mono ?_); rintro e w1 ⟨rfl, hb1⟩; replace H5 := (hb1.block _ (lt_heap H5)).trans H5; replace H7 := (hb1.block _ (lt_heap H7)).trans H7; replace H8 := (hb1.block _ (lt_heap H8)).trans H8; replace hB := below_on hB hb1; clear hb1 xa0 fa0 xa1 fa1 xa2 fa2 xb0 fb0 xb1 fb1 xb2 fb2 xc0 fc0 xc1 fc1 xc2 fc2; obtain ⟨xa0, xa1, xa2, fa0, fa1, fa2⟩ := three_cells H5; obtain ⟨xb0, xb1, xb2, fb0, fb1, fb2⟩ := three_cells H7; obtain ⟨xc0, xc1, xc2, fc0, fc1, fc2⟩ := three_cells H8) | (go_at_call 46; (with_reducible refine (KT.out _ hB).mono ?_); rintro e w1 ⟨rfl, hb1⟩; replace H5 := (hb1.block _ (lt_heap H5)).trans H5; replace H7 := (hb1.block _ (lt_heap H7)).trans H7; replace H8 := (hb1.block _ (lt_heap H8)).trans H8; replace hB := below_on hB hb1; clear hb1 xa0 fa0 xa1 fa1 xa2 fa2 xb0 fb0 xb1 fb1 xb2 fb2 xc0 fc0 xc1 fc1 xc2 fc2; obtain ⟨xa0, xa1, xa2, fa0, fa1, fa2⟩ := three_cells H5; obtain ⟨xb0, xb1, xb2, fb0, fb1, fb2⟩ := three_cells H7; obtain ⟨xc0, xc1, xc2, fc0, fc1, fc2⟩ := three_cells H8) | (go_at_call 53; (with_reducible refine (KRF.out _ hB).mono ?_); rintro e w1 ⟨rfl, hb1⟩; replace H5 := (hb1.block _ (lt_heap H5)).trans H5; replace H7 := (hb1.block _ (lt_heap H7)).trans H7; replace H8 := (hb1.block _ (lt_heap H8)).trans H8; replace hB := below_on hB hb1; clear hb1 xa0 fa0 xa1 fa1 xa2 fa2 xb0 fb0 xb1 fb1 xb2 fb2 xc0 fc0 xc1 fc1 xc2 fc2; obtain ⟨xa0, xa1, xa2, fa0, fa1, fa2⟩ := three_cells H5; obtain ⟨xb0, xb1, xb2, fb0, fb1, fb2⟩ := three_cells H7; obtain ⟨xc0, xc1, xc2, fc0, fc1, fc2⟩ := three_cells H8) | (go_at_call 53; (with_reducible refine (KRG.out _ hB).mono ?_); rintro e w1 ⟨rfl, hb1⟩; replace H5 := (hb1.block _ (lt_heap H5)).trans H5; replace H7 := (hb1.block _ (lt_heap H7)).trans H7; replace H8 := (hb1.block _ (lt_heap H8)).trans H8; replace hB := below_on hB hb1; clear hb1 xa0 fa0 xa1 fa1 xa2 fa2 xb0 fb0 xb1 fb1 xb2 fb2 xc0 fc0 xc1 fc1 xc2 fc2; obtain ⟨xa0, xa1, xa2, fa0, fa1, fa2⟩ := three_cells H5; obtain ⟨xb0, xb1, xb2, fb0, fb1, fb2⟩ := three_cells H7; obtain ⟨xc0, xc1, xc2, fc0, fc1, fc2⟩ := three_cells H8) | (go_at_call 53; (with_reducible refine (KRT.out _ hB).mono ?_); rintro e w1 ⟨rfl, hb1⟩; replace H5 := (hb1.block _ (lt_heap H5)).trans H5; replace H7 := (hb1.block _ (lt_heap H7)).trans H7; replace H8 := (hb1.block _ (lt_heap H8)).trans H8; replace hB := below_on hB hb1; clear hb1 xa0 fa0 xa1 fa1 xa2 fa2 xb0 fb0 xb1 fb1 xb2 fb2 xc0 fc0 xc1 fc1 xc2 fc2; obtain ⟨xa0, xa1, xa2, fa0, fa1, fa2⟩ := three_cells H5; obtain ⟨xb0, xb1, xb2, fb0, fb1, fb2⟩ := three_cells H7; obtain ⟨xc0, xc1, xc2, fc0, fc1, fc2⟩ := three_cells H8) | (go_at_call 50; (with_reducible refine (KAF.out _ hB hn20).mono ?_); rintro e w1 ⟨rfl, hb1⟩; replace H5 := (hb1.block _ (lt_heap H5)).trans H5; replace H7 := (hb1.block _ (lt_heap H7)).trans H7; replace H8 := (hb1.block _ (lt_heap H8)).trans H8; replace hB := below_on hB hb1; clear hb1 xa0 fa0 xa1 fa1 xa2 fa2 xb0 fb0 xb1 fb1 xb2 fb2 xc0 fc0 xc1 fc1 xc2 fc2; obtain ⟨xa0, xa1, xa2, fa0, fa1, fa2⟩ := three_cells H5; obtain ⟨xb0, xb1, xb2, fb0, fb1, fb2⟩ := three_cells H7; obtain ⟨xc0, xc1, xc2, fc0, fc1, fc2⟩ := three_cells H8) | (go_at_call 50; (with_reducible refine (KAG.out _ hB hn20).mono ?_); rintro e w1 ⟨rfl, hb1⟩; replace H5 := (hb1.block _ (lt_heap H5)).trans H5; replace H7 := (hb1.block _ (lt_heap H7)).trans H7; replace H8 := (hb1.block _ (lt_heap H8)).trans H8; replace hB := below_on hB hb1; clear hb1 xa0 fa0 xa1 fa1 xa2 fa2 xb0 fb0 xb1 fb1 xb2 fb2 xc0 fc0 xc1 fc1 xc2 fc2; obtain ⟨xa0, xa1, xa2, fa0, fa1, fa2⟩ := three_cells H5; obtain ⟨xb0, xb1, xb2, fb0, fb1, fb2⟩ := three_cells H7; obtain ⟨xc0, xc1, xc2, fc0, fc1, fc2⟩ := three_cells H8) | (go_at_call 41; (with_reducible refine (works18_any _).mono ?_); rintro e w1 ⟨rfl, hb1⟩; replace H5 := (hb1.block _ (lt_heap H5)).trans H5; replace H7 := (hb1.block _ (lt_heap H7)).trans H7; replace H8 := (hb1.block _ (lt_heap H8)).trans H8; replace hB := below_on hB hb1; clear hb1 xa0 fa0 xa1 fa1 xa2 fa2 xb0 fb0 xb1 fb1 xb2 fb2 xc0 fc0 xc1 fc1 xc2 fc2; obtain ⟨xa0, xa1, xa2, fa0, fa1, fa2⟩ := three_cells H5; obtain ⟨xb0, xb1, xb2, fb0, fb1, fb2⟩ := three_cells H7; obtain ⟨xc0, xc1, xc2, fc0, fc1, fc2⟩ := three_cells H8))
                  go_ret
                  exact ⟨rfl, hB⟩
                | true =>
                  cases s2 with
                  | false =>
                    go_wp2_with (first | (go_at_call 46; (with_reducible refine (KF.out _ hB).mono ?_); rintro e w1 ⟨rfl, hb1⟩; replace H5 := (hb1.block _ (lt_heap H5)).trans H5; replace H7 := (hb1.block _ (lt_heap H7)).trans H7; replace H8 := (hb1.block _ (lt_heap H8)).trans H8; replace hB := below_on hB hb1; clear hb1 xa0 fa0 xa1 fa1 xa2 fa2 xb0 fb0 xb1 fb1 xb2 fb2 xc0 fc0 xc1 fc1 xc2 fc2; obtain ⟨xa0, xa1, xa2, fa0, fa1, fa2⟩ := three_cells H5; obtain ⟨xb0, xb1, xb2, fb0, fb1, fb2⟩ := three_cells H7; obtain ⟨xc0, xc1, xc2, fc0, fc1, fc2⟩ := three_cells H8) | (go_at_call 46; (with_reducible refine (KG.out _ hB).mono ?_); rintro e w1 ⟨rfl, hb1⟩; replace H5 := (hb1.block _ (lt_heap H5)).trans H5; replace H7 := (hb1.block _ (lt_heap H7)).trans H7; replace H8 := (hb1.block _ (lt_heap H8)).trans H8; replace hB := below_on hB hb1; clear hb1 xa0 fa0 xa1 fa1 xa2 fa2 xb0 fb0 xb1 fb1 xb2 fb2 xc0 fc0 xc1 fc1 xc2 fc2; obtain ⟨xa0, xa1, xa2, fa0, fa1, fa2⟩ := three_cells H5; obtain ⟨xb0, xb1, xb2, fb0, fb1, fb2⟩ := three_cells H7; obtain ⟨xc0, xc1, xc2, fc0, fc1, fc2⟩ := three_cells H8) | (go_at_call 46; (with_reducible refine (KT.out _ hB).mono ?_); rintro e w1 ⟨rfl, hb1⟩; replace H5 := (hb1.block _ (lt_heap H5)).trans H5; replace H7 := (hb1.block _ (lt_heap H7)).trans H7; replace H8 := (hb1.block _ (lt_heap H8)).trans H8; replace hB := below_on hB hb1; clear hb1 xa0 fa0 xa1 fa1 xa2 fa2 xb0 fb0 xb1 fb1 xb2 fb2 xc0 fc0 xc1 fc1 xc2 fc2; obtain ⟨xa0, xa1, xa2, fa0, fa1, fa2⟩ := three_cells H5; obtain ⟨xb0, xb1, xb2, fb0, fb1, fb2⟩ := three_cells H7; obtain ⟨xc0, xc1, xc2, fc0, fc1, fc2⟩ := three_cells H8) | (go_at_call 53; (with_reducible refine (KRF.out _ hB).mono ?_); rintro e w1 ⟨rfl, hb1⟩; replace H5 := (hb1.block _ (lt_heap H5)).trans H5; replace H7 := (hb1.block _ (lt_heap H7)).trans H7; replace H8 := (hb1.block _ (lt_heap H8)).trans H8; replace hB := below_on hB hb1; clear hb1 xa0 fa0 xa1 fa1 xa2 fa2 xb0 fb0 xb1 fb1 xb2 fb2 xc0 fc0 xc1 fc1 xc2 fc2; obtain ⟨xa0, xa1, xa2, fa0, fa1, fa2⟩ := three_cells H5; obtain ⟨xb0, xb1, xb2, fb0, fb1, fb2⟩ := three_cells H7; obtain ⟨xc0, xc1, xc2, fc0, fc1, fc2⟩ := three_cells H8) | (go_at_call 53; (with_reducible refine (KRG.out _ hB).mono ?_); rintro e w1 ⟨rfl, hb1⟩; replace H5 := (hb1.block _ (lt_heap H5)).trans H5; replace H7 := (hb1.block _ (lt_heap H7)).trans H7; replace H8 := (hb1.block _ (lt_heap H8)).trans H8; replace hB := below_on hB hb1; clear hb1 xa0 fa0 xa1 fa1 xa2 fa2 xb0 fb0 xb1 fb1 xb2 fb2 xc0 fc0 xc1 fc1 xc2 fc2; obtain ⟨xa0, xa1, xa2, fa0, fa1, fa2⟩ := three_cells H5; obtain ⟨xb0, xb1, xb2, fb0, fb1, fb2⟩ := three_cells H7; obtain ⟨xc0, xc1, xc2, fc0, fc1, fc2⟩ := three_cells H8) | (go_at_call 53; (with_reducible refine (KRT.out _ hB).mono ?_); rintro e w1 ⟨rfl, hb1⟩; replace H5 := (hb1.block _ (lt_heap H5)).trans H5; replace H7 := (hb1.block _ (lt_heap H7)).trans H7; replace H8 := (hb1.block _ (lt_heap H8)).trans H8; replace hB := below_on hB hb1; clear hb1 xa0 fa0 xa1 fa1 xa2 fa2 xb0 fb0 xb1 fb1 xb2 fb2 xc0 fc0 xc1 fc1 xc2 fc2; obtain ⟨xa0, xa1, xa2, fa0, fa1, fa2⟩ := three_cells H5; obtain ⟨xb0, xb1, xb2, fb0, fb1, fb2⟩ := three_cells H7; obtain ⟨xc0, xc1, xc2, fc0, fc1, fc2⟩ := three_cells H8) | (go_at_call 50; (with_reducible refine (KAF.out _ hB hn20).mono ?_); rintro e w1 ⟨rfl, hb1⟩; replace H5 := (hb1.block _ (lt_heap H5)).trans H5; replace H7 := (hb1.block _ (lt_heap H7)).trans H7; replace H8 := (hb1.block _ (lt_heap H8)).trans H8; replace hB := below_on hB hb1; clear hb1 xa0 fa0 xa1 fa1 xa2 fa2 xb0 fb0 xb1 fb1 xb2 fb2 xc0 fc0 xc1 fc1 xc2 fc2; obtain ⟨xa0, xa1, xa2, fa0, fa1, fa2⟩ := three_cells H5; obtain ⟨xb0, xb1, xb2, fb0, fb1, fb2⟩ := three_cells H7; obtain ⟨xc0, xc1, xc2, fc0, fc1, fc2⟩ := three_cells H8) | (go_at_call 50; (with_reducible refine (KAG.out _ hB hn20).mono ?_); rintro e w1 ⟨rfl, hb1⟩; replace H5 := (hb1.block _ (lt_heap H5)).trans H5; replace H7 := (hb1.block _ (lt_heap H7)).trans H7; replace H8 := (hb1.block _ (lt_heap H8)).trans H8; replace hB := below_on hB hb1; clear hb1 xa0 fa0 xa1 fa1 xa2 fa2 xb0 fb0 xb1 fb1 xb2 fb2 xc0 fc0 xc1 fc1 xc2 fc2; obtain ⟨xa0, xa1, xa2, fa0, fa1, fa2⟩ := three_cells H5; obtain ⟨xb0, xb1, xb2, fb0, fb1, fb2⟩ := three_cells H7; obtain ⟨xc0, xc1, xc2, fc0, fc1, fc2⟩ := three_cells H8) | (go_at_call 41; (with_reducible refine (works18_any _).mono ?_); rintro e w1 ⟨rfl, hb1⟩; replace H5 := (hb1.block _ (lt_heap H5)).trans H5; replace H7 := (hb1.block _ (lt_heap H7)).trans H7; replace H8 := (hb1.block _ (lt_heap H8)).trans H8; replace hB := below_on hB hb1; clear hb1 xa0 fa0 xa1 fa1 xa2 fa2 xb0 fb0 xb1 fb1 xb2 fb2 xc0 fc0 xc1 fc1 xc2 fc2; obtain ⟨xa0, xa1, xa2, fa0, fa1, fa2⟩ := three_cells H5; obtain ⟨xb0, xb1, xb2, fb0, fb1, fb2⟩ := three_cells H7; obtain ⟨xc0, xc1, xc2, fc0, fc1, fc2⟩ := three_cells H8))
                    go_ret
                    exact ⟨rfl, hB⟩
                  | true =>
                    have HU0 := Lib.hid (shape_of_as HF.out HG.out S1.out S2.out)
                    obtain ⟨hn20', hv, hm1, hm2⟩ := HS.out rfl
                    have HV := Lib.hid hv
                    have hsh := HU0.out
                    clear hv
                    go_upto_region 4 with (first | (go_at_call 46; (with_reducible refine (KF.out _ hB).mono ?_); rintro e w1 ⟨rfl, hb1⟩; replace H5 := (hb1.block _ (lt_heap H5)).trans H5; replace H7 := (hb1.block _ (lt_heap H7)).trans H7; replace H8 := (hb1.block _ (lt_heap H8)).trans H8; replace hB := below_on hB hb1; clear hb1 xa0 fa0 xa1 fa1 xa2 fa2 xb0 fb0 xb1 fb1 xb2 fb2 xc0 fc0 xc1 fc1 xc2 fc2; obtain ⟨xa0, xa1, xa2, fa0, fa1, fa2⟩ := three_cells H5; obtain ⟨xb0, xb1, xb2, fb0, fb1, fb2⟩ := three_cells H7; obtain ⟨xc0, xc1, xc2, fc0, fc1, fc2⟩ := three_cells H8) | (go_at_call 46; (with_reducible refine (KG.out _ hB).mono ?_); rintro e w1 ⟨rfl, hb1⟩; replace H5 := (hb1.block _ (lt_heap H5)).trans H5; replace H7 := (hb1.block _ (lt_heap H7)).trans H7; replace H8 := (hb1.block _ (lt_heap H8)).trans H8; replace hB := below_on hB hb1; clear hb1 xa0 fa0 xa1 fa1 xa2 fa2 xb0 fb0 xb1 fb1 xb2 fb2 xc0 fc0 xc1 fc1 xc2 fc2; obtain ⟨xa0, xa1, xa2, fa0, fa1, fa2⟩ := three_cells H5; obtain ⟨xb0, xb1, xb2, fb0, fb1, fb2⟩ := three_cells H7; obtain ⟨xc0, xc1, xc2, fc0, fc1, fc2⟩ := three_cells H8) | (go_at_call 46; (with_reducible refine (KT.out _ hB).mono ?_); rintro e w1 ⟨rfl, hb1⟩; replace H5 := (hb1.block _ (lt_heap H5)).trans H5; replace H7 := (hb1.block _ (lt_heap H7)).trans H7; replace H8 := (hb1.block _ (lt_heap H8)).trans H8; replace hB := below_on hB hb1; clear hb1 xa0 fa0 xa1 fa1 xa2 fa2 xb0 fb0 xb1 fb1 xb2 fb2 xc0 fc0 xc1 fc1 xc2 fc2; obtain ⟨xa0, xa1, xa2, fa0, fa1, fa2⟩ := three_cells H5; obtain ⟨xb0, xb1, xb2, fb0, fb1, fb2⟩ := three_cells H7; obtain ⟨xc0, xc1, xc2, fc0, fc1, fc2⟩ := three_cells H8) | (go_at_call 53; (with_reducible refine (KRF.out _ hB).mono ?_); rintro e w1 ⟨rfl, hb1⟩; replace H5 := (hb1.block _ (lt_heap H5)).trans H5; replace H7 := (hb1.block _ (lt_heap H7)).trans H7; replace H8 := (hb1.block _ (lt_heap H8)).trans H8; replace hB := below_on hB hb1; clear hb1 xa0 fa0 xa1 fa1 xa2 fa2 xb0 fb0 xb1 fb1 xb2 fb2 xc0 fc0 xc1 fc1 xc2 fc2; obtain ⟨xa0, xa1, xa2, fa0, fa1, fa2⟩ := three_cells H5; obtain ⟨xb0, xb1, xb2, fb0, fb1, fb2⟩ := three_cells H7; obtain ⟨xc0, xc1, xc2, fc0, fc1, fc2⟩ := three_cells H8) | (go_at_call 53; (with_reducible refine (KRG.out _ hB).mono ?_); rintro e w1 ⟨rfl, hb1⟩; replace H5 := (hb1.block _ (lt_heap H5)).trans H5; replace H7 := (hb1.block _ (lt_heap H7)).trans H7; replace H8 := (hb1.block _ (lt_heap H8)).trans H8; replace hB := below_on hB hb1; clear hb1 xa0 fa0 xa1 fa1 xa2 fa2 xb0 fb0 xb1 fb1 xb2 fb2 xc0 fc0 xc1 fc1 xc2 fc2; obtain ⟨xa0, xa1, xa2, fa0, fa1, fa2⟩ := three_cells H5; obtain ⟨xb0, xb1, xb2, fb0, fb1, fb2⟩ := three_cells H7; obtain ⟨xc0, xc1, xc2, fc0, fc1, fc2⟩ := three_cells H8) | (go_at_call 53; (with_reducible refine (KRT.out _ hB).mono ?_); rintro e w1 ⟨rfl, hb1⟩; replace H5 := (hb1.block _ (lt_heap H5)).trans H5; replace H7 := (hb1.block _ (lt_heap H7)).trans H7; replace H8 := (hb1.block _ (lt_heap H8)).trans H8; replace hB := below_on hB hb1; clear hb1 xa0 fa0 xa1 fa1 xa2 fa2 xb0 fb0 xb1 fb1 xb2 fb2 xc0 fc0 xc1 fc1 xc2 fc2; obtain ⟨xa0, xa1, xa2, fa0, fa1, fa2⟩ := three_cells H5; obtain ⟨xb0, xb1, xb2, fb0, fb1, fb2⟩ := three_cells H7; obtain ⟨xc0, xc1, xc2, fc0, fc1, fc2⟩ := three_cells H8) | (go_at_call 50; (with_reducible refine (KAF.out _ hB hn20).mono ?_); rintro e w1 ⟨rfl, hb1⟩; replace H5 := (hb1.block _ (lt_heap H5)).trans H5; replace H7 := (hb1.block _ (lt_heap H7)).trans H7; replace H8 := (hb1.block _ (lt_heap H8)).trans H8; replace hB := below_on hB hb1; clear hb1 xa0 fa0 xa1 fa1 xa2 fa2 xb0 fb0 xb1 fb1 xb2 fb2 xc0 fc0 xc1 fc1 xc2 fc2; obtain ⟨xa0, xa1, xa2, fa0, fa1, fa2⟩ := three_cells H5; obtain ⟨xb0, xb1, xb2, fb0, fb1, fb2⟩ := three_cells H7; obtain ⟨xc0, xc1, xc2, fc0, fc1, fc2⟩ := three_cells H8) | (go_at_call 50; (with_reducible refine (KAG.out _ hB hn20).mono ?_); rintro e w1 ⟨rfl, hb1⟩; replace H5 := (hb1.block _ (lt_heap H5)).trans H5; replace H7 := (hb1.block _ (lt_heap H7)).trans H7; replace H8 := (hb1.block _ (lt_heap H8)).trans H8; replace hB := below_on hB hb1; clear hb1 xa0 fa0 xa1 fa1 xa2 fa2 xb0 fb0 xb1 fb1 xb2 fb2 xc0 fc0 xc1 fc1 xc2 fc2; obtain ⟨xa0, xa1, xa2, fa0, fa1, fa2⟩ := three_cells H5; obtain ⟨xb0, xb1, xb2, fb0, fb1, fb2⟩ := three_cells H7; obtain ⟨xc0, xc1, xc2, fc0, fc1, fc2⟩ := three_cells H8))
                    go_upto_region 5 with (go_at_call 47; (with_reducible refine (mfrM A n c L f g _ HN.out hn20 HV.out (HL.out.up hB) (HF.out.up hB) (HG.out.up hB) (by omega) (by omega) hsh).mono ?_); rintro e w1 ⟨F, rfl, hFo, hFj, hb1⟩; have HFO := Lib.hid hFo; have HFJ := Lib.hid hFj; clear hFo hFj; replace H5 := (hb1.block _ (lt_heap H5)).trans H5; replace H7 := (hb1.block _ (lt_heap H7)).trans H7; replace H8 := (hb1.block _ (lt_heap H8)).trans H8; replace hB := below_on hB hb1; clear hb1 xa0 fa0 xa1 fa1 xa2 fa2 xb0 fb0 xb1 fb1 xb2 fb2 xc0 fc0 xc1 fc1 xc2 fc2; obtain ⟨xa0, xa1, xa2, fa0, fa1, fa2⟩ := three_cells H5; obtain ⟨xb0, xb1, xb2, fb0, fb1, fb2⟩ := three_cells H7; obtain ⟨xc0, xc1, xc2, fc0, fc1, fc2⟩ := three_cells H8)
                    have H9 := World.alloc_heap_new w1 (.cells #[.slice F.A1 F.n1 F.c1, .slice F.A2 F.n2 F.c2, .bool F.u] 56)
                    replace H5 := laid_old (o' := (.cells #[.slice F.A1 F.n1 F.c1, .slice F.A2 F.n2 F.c2, .bool F.u] 56)) H5
                    replace H7 := laid_old (o' := (.cells #[.slice F.A1 F.n1 F.c1, .slice F.A2 F.n2 F.c2, .bool F.u] 56)) H7
                    replace H8 := laid_old (o' := (.cells #[.slice F.A1 F.n1 F.c1, .slice F.A2 F.n2 F.c2, .bool F.u] 56)) H8
                    replace hB := below_al hB (.cells #[.slice F.A1 F.n1 F.c1, .slice F.A2 F.n2 F.c2, .bool F.u] 56)
                    replace HFO := Lib.hid (HFO.out.up (below_al (Below.refl _ _) (.cells #[.slice F.A1 F.n1 F.c1, .slice F.A2 F.n2 F.c2, .bool F.u] 56)))
                    generalize w1.alloc (.cells #[.slice F.A1 F.n1 F.c1, .slice F.A2 F.n2 F.c2, .bool F.u] 56) = W7 at H9 H5 H7 H8 hB HFO ⊢
                    generalize w1.heap.size = B9 at H9 ⊢
                    clear xa0 fa0 xa1 fa1 xa2 fa2 xb0 fb0 xb1 fb1 xb2 fb2 xc0 fc0 xc1 fc1 xc2 fc2
                    obtain ⟨xa0, xa1, xa2, fa0, fa1, fa2⟩ := three_cells H5; obtain ⟨xb0, xb1, xb2, fb0, fb1, fb2⟩ := three_cells H7; obtain ⟨xc0, xc1, xc2, fc0, fc1, fc2⟩ := three_cells H8; obtain ⟨xd0, xd1, xd2, fd0, fd1, fd2⟩ := three_cells H9
                    have HU := Lib.hid (frame_lub HV.out (shape_len HF.out HG.out hsh) R1.out R2.out R3.out HFJ.out S1.out S2.out)
                    go_wp2_with (first | (go_at_call 50; (with_reducible refine (masM A n c L F t _ HN.out hn20 (HL.out.up hB) HFO.out (HT.out.up hB)).mono ?_); rintro e w1 ⟨rfl, hb1⟩; rw [HU.out]; replace H5 := (hb1.block _ (lt_heap H5)).trans H5; replace H7 := (hb1.block _ (lt_heap H7)).trans H7; replace H8 := (hb1.block _ (lt_heap H8)).trans H8; replace H9 := (hb1.block _ (lt_heap H9)).trans H9; replace HFO := Lib.hid (HFO.out.up hb1); replace hB := below_on hB hb1; clear hb1 xa0 fa0 xa1 fa1 xa2 fa2 xb0 fb0 xb1 fb1 xb2 fb2 xc0 fc0 xc1 fc1 xc2 fc2 xd0 fd0 xd1 fd1 xd2 fd2; obtain ⟨xa0, xa1, xa2, fa0, fa1, fa2⟩ := three_cells H5; obtain ⟨xb0, xb1, xb2, fb0, fb1, fb2⟩ := three_cells H7; obtain ⟨xc0, xc1, xc2, fc0, fc1, fc2⟩ := three_cells H8; obtain ⟨xd0, xd1, xd2, fd0, fd1, fd2⟩ := three_cells H9) | (go_at_call 41; (with_reducible refine (works18_any _).mono ?_); rintro e w1 ⟨rfl, hb1⟩; replace H5 := (hb1.block _ (lt_heap H5)).trans H5; replace H7 := (hb1.block _ (lt_heap H7)).trans H7; replace H8 := (hb1.block _ (lt_heap H8)).trans H8; replace H9 := (hb1.block _ (lt_heap H9)).trans H9; replace HFO := Lib.hid (HFO.out.up hb1); replace hB := below_on hB hb1; clear hb1 xa0 fa0 xa1 fa1 xa2 fa2 xb0 fb0 xb1 fb1 xb2 fb2 xc0 fc0 xc1 fc1 xc2 fc2 xd0 fd0 xd1 fd1 xd2 fd2; obtain ⟨xa0, xa1, xa2, fa0, fa1, fa2⟩ := three_cells H5; obtain ⟨xb0, xb1, xb2, fb0, fb1, fb2⟩ := three_cells H7; obtain ⟨xc0, xc1, xc2, fc0, fc1, fc2⟩ := three_cells H8; obtain ⟨xd0, xd1, xd2, fd0, fd1, fd2⟩ := three_cells H9))
                    go_ret
                    exact ⟨rfl, hB⟩
end Go.Proofs.YthifmcnemeiphaaDoor

namespace Go.Proofs.YthifmcnemeiphaaDoor.mergeLeastUpperBoundUpto
open Go.ChangeShapes Go.WideShapes Go.ChangeAt Go.RowKit
open Go.ChangeMaps (open_string shut_string)
set_option linter.unusedVariables false
set_option linter.unusedSimpArgs false

theorem own : ownKnob Tryd.prog.godebug = none := by kernel_rfl

set_option maxRecDepth 100000 in
theorem contract (H : Type) (enc : TypeId × Value → H) (W : World) (base : Nat) (args : Array Value) (ds gs : List (DataW H)) (before : List MemPlace)
    (hval0 : ∀ (j : Nat) t v, Tryd.f14.params[j]? = some t → args[j]? = some v → Value.okWide Tryd.prog W .any base t v)
    (hW : DataW.Whole enc Tryd.prog Tryd.f14.params.toList Rows.mergeLeastUpperBoundSpec.vars false W args.toList ds gs before)
    (hsz : (DataW.weightsEach Tryd.prog (Tryd.f14.params.toList ++ (OpenSpec.ofChange Rows.mergeLeastUpperBoundSpec).bare.plain.varTypes Tryd.prog) (ds ++ gs)).all (· ≤ reachBytes) = true)
    (hL : laidMetH Tryd.prog Rows.mergeLeastUpperBoundUptoRow.laid W) (hSh : W.ShapedOpen Tryd.prog) (hk : Rows.uptoSmall H (ds ++ gs) = true) :
    Calls Tryd.prog 14 args W fun e W' => ∃ v, e = .returned v ∧ Rows.mergeLeastUpperBoundSpec.post enc Tryd.prog Tryd.f14 false true false false W args v W' := by
  have hval := hval0
  have hW' := hW
  have low := fun x hx => hW.lt x hx
  obtain ⟨p, q, hA0, hV, rfl, hfz, hnd⟩ := hW
  have hA : DataW.TrodAll enc Tryd.prog W 0 (fun _ => true) true Tryd.f14.params.toList args.toList ds p := hA0
  rw [Tryd.params14] at hA hval hsz
  obtain ⟨v0, vs0, d0, ds0, p0, q0, hargs, rfl, rfl, h0, r0⟩ := trodAll_cons hA
  obtain ⟨v1, vs1, d1, ds1, p1, q1, rfl, rfl, rfl, h1, r1⟩ := trodAll_cons r0
  obtain ⟨v2, vs2, d2, ds2, p2, q2, rfl, rfl, rfl, h2, r2⟩ := trodAll_cons r1
  obtain ⟨rfl, rfl, rfl⟩ := trodAll_nil r2
  obtain rfl : args = #[v0, v1, v2] := by cases args; simp_all
  obtain ⟨rfl, rfl⟩ := trodVars_none hV
  have g0 := h0
  obtain ⟨A0, n0, c0, L0, rfl, hn0, hc0, hm0, hp0, hq0⟩ := open_cis_bulk (hval 0 22 v0 rfl rfl) h0
  have hb0 : Rows.uptoBulk d0 ≤ 1048576 := Nat.le_trans (bulk_mem (by simp)) (of_decide_eq_true hk)
  have hM0 : (names L0).length ≤ 2000000 := by omega
  have g1 := h1
  obtain ⟨f1, e1, rfl, hf1, he1⟩ := open_ff_of (hval 1 63 v1 rfl rfl) h1
  have g2 := h2
  obtain ⟨f2, rfl, hf2⟩ := open_fm_of (hval 2 56 v2 rfl rfl) h2
  clear hA0 hval0
  simp only [List.append_nil, List.nil_append] at hW'
  refine (mlub_law A0 n0 c0 L0 f1 e1 f2 W hn0 hc0 hm0 hM0 hp0 hf1 he1 hf2).mono fun e W' ⟨he, hg⟩ => ?_
  subst he
  exact ⟨_, rfl, post_law hW' rfl (fun _ _ _ => (trodAll_cons_mk (shut_bool Tryd.underlying4 _) trodAll_mk0)) (fun sp hsp => by have q := (trodAll_cons_mk (WideElems.Trod_stays (by kernel_rfl) (by kernel_rfl) (of_decide_eq_true (by kernel_rfl)) g0 (fun x hx => hg.same (low x (by first | exact absurd hx (by simp; done) | simp [hx]))) (fun x hx => hsp x (by first | exact absurd hx (by simp; done) | simp [hx]))) (trodAll_cons_mk (WideElems.Trod_stays (by kernel_rfl) (by kernel_rfl) (of_decide_eq_true (by kernel_rfl)) g1 (fun x hx => hg.same (low x (by first | exact absurd hx (by simp; done) | simp [hx]))) (fun x hx => hsp x (by first | exact absurd hx (by simp; done) | simp [hx]))) (trodAll_cons_mk (WideElems.Trod_stays (by kernel_rfl) (by kernel_rfl) (of_decide_eq_true (by kernel_rfl)) g2 (fun x hx => hg.same (low x (by first | exact absurd hx (by simp; done) | simp [hx]))) (fun x hx => hsp x (by first | exact absurd hx (by simp; done) | simp [hx]))) (trodAll_mk0 (enc := enc) (P := Tryd.prog) (w := W') (base := 0) (spare := sp) (held := true))))); (try simp only [List.append_nil, List.nil_append] at q); exact q) rfl
    hg (ok_one (by kernel_rfl) rfl (okWide_bool_mk Tryd.underlying4 _))⟩

/-- a world for the witness: the settled one, the listed variables holding what their initialisers lay -/
noncomputable def laidWorld (os : Os) : World := World.laidAll Tryd.prog os Rows.mergeLeastUpperBoundUptoRow.laid
theorem laid_met (os : Os) : laidMet Tryd.prog Rows.mergeLeastUpperBoundUptoRow.laid ((laidWorld os).forCall (fun _ _ => 0) ⟨#[], #[.slice none 0 0, .agg #[.slice none 0 0, .slice none 0 0, .bool false, .slice none 0 0, .slice none 0 0, .bool false], .agg #[.slice none 0 0, .slice none 0 0, .bool false]], []⟩).memory :=
  laidMet_laidAll _ (by kernel_rfl) (by kernel_rfl)
theorem reads (os : Os) {H : Type} (enc : TypeId × Value → H) : ∃ places, DataW.whole enc Tryd.prog ((laidWorld os).forCall (fun _ _ => 0) ⟨#[], #[.slice none 0 0, .agg #[.slice none 0 0, .slice none 0 0, .bool false, .slice none 0 0, .slice none 0 0, .bool false], .agg #[.slice none 0 0, .slice none 0 0, .bool false]], []⟩).memory Tryd.f14.params.toList Rows.mergeLeastUpperBoundSpec.vars false #[Value.slice none 0 0, .agg #[.slice none 0 0, .slice none 0 0, .bool false, .slice none 0 0, .slice none 0 0, .bool false], .agg #[.slice none 0 0, .slice none 0 0, .bool false]].toList 8 = some ([.nil, .agg [.agg [.nil, .nil, .lit (.bool false)], .agg [.nil, .nil, .lit (.bool false)]], .agg [.nil, .nil, .lit (.bool false)]], [], places) :=
  ⟨[], by kernel_rfl⟩

set_option maxRecDepth 100000 in
theorem lifted (os : Os) (started : os.Started) (H : Type) (enc : TypeId × Value → H) (F : Stop.Interp) :
    ReturnsInHanded {} Tryd.checked os 14 .any ((Rows.OpenSpec.upto Rows.mergeLeastUpperBoundSpec).preRow enc Tryd.prog Tryd.f14 Rows.mergeLeastUpperBoundUptoRow.domain false Rows.mergeLeastUpperBoundUptoRow.laid) (((Rows.OpenSpec.upto Rows.mergeLeastUpperBoundSpec).at F).post enc Tryd.prog Tryd.f14 false true false false) := by
  obtain ⟨places, hx⟩ := reads os enc
  refine returnsInHanded_of_row (C := Tryd.checked) (s := Rows.OpenSpec.upto Rows.mergeLeastUpperBoundSpec) own started (by kernel_rfl) Tryd.func14
    (witness_row_at (enc := enc) (C := Tryd.checked) false (laidWorld os) #[.slice none 0 0, .agg #[.slice none 0 0, .slice none 0 0, .bool false, .slice none 0 0, .slice none 0 0, .bool false], .agg #[.slice none 0 0, .slice none 0 0, .bool false]] (World.laidAll_os _ _ _) (by kernel_rfl) (by kernel_rfl) (by kernel_rfl)
      (OpenSpec.preRow_of_cond 8 hx (by kernel_rfl) (fun k hk => by cases hk; kernel_rfl) (by kernel_rfl) (laid_met os))) ?_
  intro W base args ds gs before hval hW u1 u2 hsz hL hSh _
  first | exact contract H enc W base args ds gs before hval hW hsz hL hSh (u2 _ rfl) | exact contract H enc W base args ds gs before hval hW hsz hL hSh (u1 _ rfl)

theorem said : Rows.MergeLeastUpperBoundUptoSaid :=
  OpenClaim.holds_of_cond 14 Tryd.f14 rfl rfl rfl rfl rfl rfl rfl ⟨rfl, rfl, rfl, rfl, rfl⟩ rfl rfl rfl rfl rfl (by kernel_rfl) Tryd.func14 (by kernel_rfl)
    (of_decide_eq_true (by kernel_rfl)) (by unfold Func.isWrapper; first | (rw [if_pos (by decide +kernel)]; kernel_rfl) | (rw [if_neg (by decide +kernel)]; exact ⟨rfl, rfl⟩))
    (fun os started H enc _ F => by rw [OpenClaim.pre_eq_preRow]; exact lifted os started H enc F)

theorem plain (f : FuncId) (fn : Func) (hf : Tryd.pinned.checked.prog.funcNamed "armature/armaturelaw18.MergeLeastUpperBound" = some f) (hfn : Tryd.pinned.checked.prog.funcs[f]? = some fn) :
    false = Tryd.pinned.checked.prog.looks [] ∧ ∀ (j : Nat) t, fn.params[j]? = some t → Tryd.pinned.checked.prog.wantsStandIn t = false := by
  obtain rfl : f = 14 := Option.some.inj ((show Tryd.prog.funcNamed "armature/armaturelaw18.MergeLeastUpperBound" = some 14 by kernel_rfl).symm.trans hf) |>.symm
  obtain rfl : fn = Tryd.f14 := (Option.some.inj (Tryd.func14.symm.trans hfn)).symm
  refine ⟨by kernel_rfl, fun j t ht => ?_⟩
  rw [Tryd.params14] at ht
  obtain rfl | rfl | rfl : t = 22 ∨ t = 63 ∨ t = 56 := by simpa using Array.mem_of_getElem? ht
  · exact (show Tryd.prog.wantsStandIn 22 = false by kernel_rfl)
  · exact (show Tryd.prog.wantsStandIn 63 = false by kernel_rfl)
  · exact (show Tryd.prog.wantsStandIn 56 = false by kernel_rfl)

theorem proved : Rows.MergeLeastUpperBoundUptoCardSaid :=
  Claim7.holds_tied_plain_at .later [] _ _ _ _ said (fun _ h => by cases h) (by kernel_rfl) (fun _ h => by cases h) mergeLeastUpperBoundUpto_row_tie rfl ⟨rfl, rfl⟩ (by kernel_rfl) rfl plain (by kernel_rfl)
#print axioms proved
end Go.Proofs.YthifmcnemeiphaaDoor.mergeLeastUpperBoundUpto
