/- Proved here: for every input of its parameters' types the function armature/armaturelaw18.MergeFrames returns, answers true, and leaves what it was handed as it was; the package-level variables that the given row lists read as the program's text lays them, which the card ties to that text (of the pruned copy of the project that its seat holds). Condition, as the given row prints it: what it reads is of bulk at most 1048576. -/
import Derived.Test.YthifmcnemeiphaaDoorCards
import Derived.Test.YthifmcnemeiphaaDoorTie
import Derived.WalkKit
import Derived.ProofKit
import Derived.OpenShut
import Derived.SizedLaws
import Derived.Deep.DeepHandedRow
import Derived.Lib.LaidTab
import Derived.Lay
import Derived.ShutString
import Derived.Test.YthifmcnemeiphaaDoorMuM
import Derived.Test.YthifmcnemeiphaaDoorMnM
import Derived.WideKeyArgs

/- Nb -/
/- Layer 18: MergeFrames (written by gen/nb.py). -/
namespace Go.Proofs.YthifmcnemeiphaaDoor
open Go.ChangeShapes Go.WideShapes Go.ChangeAt Go.RowKit Go.PlainAid Go.Maps
set_option linter.unusedSimpArgs false
set_option linter.unusedVariables false

theorem all_self (P : List VT) : allB vtE P P = true := allB_yes ⟨rfl, fun j a b ha hb => by rw [ha] at hb; rw [Option.some.inj hb]; exact vtE_self _⟩
theorem eqM_self (f : FM) : eqM f f = true := by unfold eqM; rw [all_self, all_self]; simp
theorem eqM_jn {L : List CI} {f g h k : FM} (h1 : isJn L f g h) (h2 : isJn L f g k) : eqM h k = true := by
  unfold eqM
  rw [h1.1, h2.1, h1.2.1, h2.2.1, h1.2.2.1, h2.2.2.1, all_self, all_self]; simp
theorem eqM_z : eqM fmZ fmZ = true := eqM_self fmZ
set_option maxRecDepth 100000 in
set_option maxHeartbeats 8000000 in
theorem mframes_law (A : Option Addr) (n c : Nat) (L : List CI) (f g : FM) (w : World) (hn : L.length = n) (hcap : n ≤ c) (hcm : c ≤ 9223372036854775807) (hM : (names L).length ≤ 2000000) (h : CIs w w.heap.size A L) (hf : f.ok w) (hg : g.ok w) :
    Calls Tryd.prog 11 #[.slice A n c, .agg #[.slice f.A1 f.n1 f.c1, .slice f.A2 f.n2 f.c2, .bool f.u], .agg #[.slice g.A1 g.n1 g.c1, .slice g.A2 g.n2 g.c2, .bool g.u]] w fun e w' => e = .returned (.bool true) ∧ Below w.heap.size w w' := by
  have HL := Lib.hid h
  have HN := Lib.hid hn
  have HF := Lib.hid hf
  have HG := Lib.hid hg
  have KF := Lib.hid (fun (W : World) (hW : Below w.heap.size w W) => smM_any A n c L f W hn hcap hcm hM (h.up hW))
  have KG := Lib.hid (fun (W : World) (hW : Below w.heap.size w W) => smM_any A n c L g W hn hcap hcm hM (h.up hW))
  have HS := Lib.hid (show smM (accB L) f = true → n ≤ 20 ∧ Mid L ∧ VH L ∧ f.n1 ≤ 40 ∧ f.n2 ≤ 40 from fun hh => by
    unfold smM at hh
    rw [Bool.and_eq_true, Bool.and_eq_true, decide_eq_true_iff, decide_eq_true_iff] at hh
    have ha := accB_iff.1 hh.1
    exact ⟨by rw [← hn]; exact ha.1, ⟨by have := ha.1; omega, hM⟩, ha.2, hh.2.1, hh.2.2⟩)
  obtain ⟨r1, e1⟩ : ∃ r, smM (accB L) f = r := ⟨_, rfl⟩
  obtain ⟨r2, e2⟩ : ∃ r, smM (accB L) g = r := ⟨_, rfl⟩
  rw [e1] at KF HS
  rw [e2] at KG
  clear h hn hf hg hM e1 e2
  cases r1 with
  | false =>
    go_enter Tryd.func11, Tryd.ntmps11
    go_upto_region 1 with fail
    obtain ⟨H0, H1, hB⟩ := two_laid w (.cells #[.slice f.A1 f.n1 f.c1, .slice f.A2 f.n2 f.c2, .bool f.u] 56) (.cells #[.slice g.A1 g.n1 g.c1, .slice g.A2 g.n2 g.c2, .bool g.u] 56)
    generalize (w.alloc (.cells #[.slice f.A1 f.n1 f.c1, .slice f.A2 f.n2 f.c2, .bool f.u] 56)).alloc (.cells #[.slice g.A1 g.n1 g.c1, .slice g.A2 g.n2 g.c2, .bool g.u] 56) = W at H0 H1 hB ⊢
    obtain ⟨xa0, xa1, xa2, fa0, fa1, fa2⟩ := three_cells H0; obtain ⟨xb0, xb1, xb2, fb0, fb1, fb2⟩ := three_cells H1
    go_wp2_with (first | (go_at_call 46; (with_reducible refine (KF.out _ hB).mono ?_); rintro e w1 ⟨rfl, hb1⟩; replace H0 := (hb1.block _ (lt_heap H0)).trans H0; replace H1 := (hb1.block _ (lt_heap H1)).trans H1; replace hB := below_on hB hb1; clear hb1 xa0 xa1 xa2 fa0 fa1 fa2 xb0 xb1 xb2 fb0 fb1 fb2; obtain ⟨xa0, xa1, xa2, fa0, fa1, fa2⟩ := three_cells H0; obtain ⟨xb0, xb1, xb2, fb0, fb1, fb2⟩ := three_cells H1) | (go_at_call 41; (with_reducible refine (works18_any _).mono ?_); rintro e w1 ⟨rfl, hb1⟩; replace H0 := (hb1.block _ (lt_heap H0)).trans H0; replace H1 := (hb1.block _ (lt_heap H1)).trans H1; replace hB := below_on hB hb1; clear hb1 xa0 xa1 xa2 fa0 fa1 fa2 xb0 xb1 xb2 fb0 fb1 fb2; obtain ⟨xa0, xa1, xa2, fa0, fa1, fa2⟩ := three_cells H0; obtain ⟨xb0, xb1, xb2, fb0, fb1, fb2⟩ := three_cells H1))
    go_ret
    exact ⟨rfl, hB⟩
  | true =>
    cases r2 with
    | false =>
      go_enter Tryd.func11, Tryd.ntmps11
      go_upto_region 1 with fail
      obtain ⟨H0, H1, hB⟩ := two_laid w (.cells #[.slice f.A1 f.n1 f.c1, .slice f.A2 f.n2 f.c2, .bool f.u] 56) (.cells #[.slice g.A1 g.n1 g.c1, .slice g.A2 g.n2 g.c2, .bool g.u] 56)
      generalize (w.alloc (.cells #[.slice f.A1 f.n1 f.c1, .slice f.A2 f.n2 f.c2, .bool f.u] 56)).alloc (.cells #[.slice g.A1 g.n1 g.c1, .slice g.A2 g.n2 g.c2, .bool g.u] 56) = W at H0 H1 hB ⊢
      obtain ⟨xa0, xa1, xa2, fa0, fa1, fa2⟩ := three_cells H0; obtain ⟨xb0, xb1, xb2, fb0, fb1, fb2⟩ := three_cells H1
      go_wp2_with (first | (go_at_call 46; (with_reducible refine (KF.out _ hB).mono ?_); rintro e w1 ⟨rfl, hb1⟩; replace H0 := (hb1.block _ (lt_heap H0)).trans H0; replace H1 := (hb1.block _ (lt_heap H1)).trans H1; replace hB := below_on hB hb1; clear hb1 xa0 xa1 xa2 fa0 fa1 fa2 xb0 xb1 xb2 fb0 fb1 fb2; obtain ⟨xa0, xa1, xa2, fa0, fa1, fa2⟩ := three_cells H0; obtain ⟨xb0, xb1, xb2, fb0, fb1, fb2⟩ := three_cells H1) | (go_at_call 46; (with_reducible refine (KG.out _ hB).mono ?_); rintro e w1 ⟨rfl, hb1⟩; replace H0 := (hb1.block _ (lt_heap H0)).trans H0; replace H1 := (hb1.block _ (lt_heap H1)).trans H1; replace hB := below_on hB hb1; clear hb1 xa0 xa1 xa2 fa0 fa1 fa2 xb0 xb1 xb2 fb0 fb1 fb2; obtain ⟨xa0, xa1, xa2, fa0, fa1, fa2⟩ := three_cells H0; obtain ⟨xb0, xb1, xb2, fb0, fb1, fb2⟩ := three_cells H1) | (go_at_call 41; (with_reducible refine (works18_any _).mono ?_); rintro e w1 ⟨rfl, hb1⟩; replace H0 := (hb1.block _ (lt_heap H0)).trans H0; replace H1 := (hb1.block _ (lt_heap H1)).trans H1; replace hB := below_on hB hb1; clear hb1 xa0 xa1 xa2 fa0 fa1 fa2 xb0 xb1 xb2 fb0 fb1 fb2; obtain ⟨xa0, xa1, xa2, fa0, fa1, fa2⟩ := three_cells H0; obtain ⟨xb0, xb1, xb2, fb0, fb1, fb2⟩ := three_cells H1))
      go_ret
      exact ⟨rfl, hB⟩
    | true =>
      obtain ⟨hn20, hmid, hv, hm1, hm2⟩ := HS.out rfl
      have HV := Lib.hid hv
      have HM := Lib.hid hmid
      clear hv hmid HS
      by_cases hsh : shape f g
      · go_enter Tryd.func11, Tryd.ntmps11
        go_upto_region 1 with fail
        obtain ⟨H0, H1, hB⟩ := two_laid w (.cells #[.slice f.A1 f.n1 f.c1, .slice f.A2 f.n2 f.c2, .bool f.u] 56) (.cells #[.slice g.A1 g.n1 g.c1, .slice g.A2 g.n2 g.c2, .bool g.u] 56)
        generalize (w.alloc (.cells #[.slice f.A1 f.n1 f.c1, .slice f.A2 f.n2 f.c2, .bool f.u] 56)).alloc (.cells #[.slice g.A1 g.n1 g.c1, .slice g.A2 g.n2 g.c2, .bool g.u] 56) = W at H0 H1 hB ⊢
        obtain ⟨xa0, xa1, xa2, fa0, fa1, fa2⟩ := three_cells H0; obtain ⟨xb0, xb1, xb2, fb0, fb1, fb2⟩ := three_cells H1
        go_upto_region 3 with (first | (go_at_call 46; (with_reducible refine (KF.out _ hB).mono ?_); rintro e w1 ⟨rfl, hb1⟩; replace H0 := (hb1.block _ (lt_heap H0)).trans H0; replace H1 := (hb1.block _ (lt_heap H1)).trans H1; replace hB := below_on hB hb1; clear hb1 xa0 xa1 xa2 fa0 fa1 fa2 xb0 xb1 xb2 fb0 fb1 fb2; obtain ⟨xa0, xa1, xa2, fa0, fa1, fa2⟩ := three_cells H0; obtain ⟨xb0, xb1, xb2, fb0, fb1, fb2⟩ := three_cells H1) | (go_at_call 46; (with_reducible refine (KG.out _ hB).mono ?_); rintro e w1 ⟨rfl, hb1⟩; replace H0 := (hb1.block _ (lt_heap H0)).trans H0; replace H1 := (hb1.block _ (lt_heap H1)).trans H1; replace hB := below_on hB hb1; clear hb1 xa0 xa1 xa2 fa0 fa1 fa2 xb0 xb1 xb2 fb0 fb1 fb2; obtain ⟨xa0, xa1, xa2, fa0, fa1, fa2⟩ := three_cells H0; obtain ⟨xb0, xb1, xb2, fb0, fb1, fb2⟩ := three_cells H1))
        go_upto_region 4 with (go_at_call 47; (with_reducible refine (mfrM A n c L f g _ HN.out (by omega) HV.out (HL.out.up hB) (HF.out.up hB) (HG.out.up hB) (by omega) (by omega) hsh).mono ?_); rintro e w1 ⟨F, rfl, hFo, hFj, hb1⟩; have HFO := Lib.hid hFo; have HFJ := Lib.hid hFj; clear hFo hFj; replace H0 := (hb1.block _ (lt_heap H0)).trans H0; replace H1 := (hb1.block _ (lt_heap H1)).trans H1; replace hB := below_on hB hb1; clear hb1 xa0 xa1 xa2 fa0 fa1 fa2 xb0 xb1 xb2 fb0 fb1 fb2; obtain ⟨xa0, xa1, xa2, fa0, fa1, fa2⟩ := three_cells H0; obtain ⟨xb0, xb1, xb2, fb0, fb1, fb2⟩ := three_cells H1)
        have H7 := World.alloc_heap_new w1 (.cells #[.slice F.A1 F.n1 F.c1, .slice F.A2 F.n2 F.c2, .bool F.u] 56)
        replace H0 := laid_old (o' := (.cells #[.slice F.A1 F.n1 F.c1, .slice F.A2 F.n2 F.c2, .bool F.u] 56)) H0
        replace H1 := laid_old (o' := (.cells #[.slice F.A1 F.n1 F.c1, .slice F.A2 F.n2 F.c2, .bool F.u] 56)) H1
        replace hB := below_al hB (.cells #[.slice F.A1 F.n1 F.c1, .slice F.A2 F.n2 F.c2, .bool F.u] 56)
        replace HFO := Lib.hid (HFO.out.up (below_al (Below.refl _ _) (.cells #[.slice F.A1 F.n1 F.c1, .slice F.A2 F.n2 F.c2, .bool F.u] 56)))
        generalize w1.alloc (.cells #[.slice F.A1 F.n1 F.c1, .slice F.A2 F.n2 F.c2, .bool F.u] 56) = W2 at H7 H0 H1 hB HFO ⊢
        generalize w1.heap.size = B7 at H7 ⊢
        clear xa0 xa1 xa2 fa0 fa1 fa2 xb0 xb1 xb2 fb0 fb1 fb2
        obtain ⟨xa0, xa1, xa2, fa0, fa1, fa2⟩ := three_cells H0; obtain ⟨xb0, xb1, xb2, fb0, fb1, fb2⟩ := three_cells H1
        go_upto_region 5 with (go_at_call 48; (with_reducible refine (rfrM A n c L f g _ HN.out (by omega) HV.out (HL.out.up hB) (HF.out.up hB) (HG.out.up hB) (by omega) (by omega) hsh).mono ?_); rintro e w1 ⟨G, rfl, hGo, hGj, hb1⟩; have HGO := Lib.hid hGo; have HGJ := Lib.hid hGj; clear hGo hGj; replace HFO := Lib.hid (HFO.out.up hb1); replace H7 := (hb1.block _ (lt_heap H7)).trans H7; replace H0 := (hb1.block _ (lt_heap H0)).trans H0; replace H1 := (hb1.block _ (lt_heap H1)).trans H1; replace hB := below_on hB hb1; clear hb1 xa0 xa1 xa2 fa0 fa1 fa2 xb0 xb1 xb2 fb0 fb1 fb2; obtain ⟨xa0, xa1, xa2, fa0, fa1, fa2⟩ := three_cells H0; obtain ⟨xb0, xb1, xb2, fb0, fb1, fb2⟩ := three_cells H1)
        have H9 := World.alloc_heap_new w1 (.cells #[.slice G.A1 G.n1 G.c1, .slice G.A2 G.n2 G.c2, .bool G.u] 56)
        replace H0 := laid_old (o' := (.cells #[.slice G.A1 G.n1 G.c1, .slice G.A2 G.n2 G.c2, .bool G.u] 56)) H0
        replace H1 := laid_old (o' := (.cells #[.slice G.A1 G.n1 G.c1, .slice G.A2 G.n2 G.c2, .bool G.u] 56)) H1
        replace H7 := laid_old (o' := (.cells #[.slice G.A1 G.n1 G.c1, .slice G.A2 G.n2 G.c2, .bool G.u] 56)) H7
        replace hB := below_al hB (.cells #[.slice G.A1 G.n1 G.c1, .slice G.A2 G.n2 G.c2, .bool G.u] 56)
        replace HFO := Lib.hid (HFO.out.up (below_al (Below.refl _ _) (.cells #[.slice G.A1 G.n1 G.c1, .slice G.A2 G.n2 G.c2, .bool G.u] 56))); replace HGO := Lib.hid (HGO.out.up (below_al (Below.refl _ _) (.cells #[.slice G.A1 G.n1 G.c1, .slice G.A2 G.n2 G.c2, .bool G.u] 56)))
        generalize w1.alloc (.cells #[.slice G.A1 G.n1 G.c1, .slice G.A2 G.n2 G.c2, .bool G.u] 56) = W6 at H9 H7 H0 H1 hB HFO HGO ⊢
        generalize w1.heap.size = B9 at H9 ⊢
        clear xa0 xa1 xa2 fa0 fa1 fa2 xb0 xb1 xb2 fb0 fb1 fb2
        obtain ⟨kH00, kH01, kH02, _, _, _⟩ := three_cells H0
        have hlH0 := lt_heap H0
        obtain ⟨kH10, kH11, kH12, _, _, _⟩ := three_cells H1
        have hlH1 := lt_heap H1
        obtain ⟨kH70, kH71, kH72, _, _, _⟩ := three_cells H7
        have hlH7 := lt_heap H7
        obtain ⟨kH90, kH91, kH92, _, _, _⟩ := three_cells H9
        have hlH9 := lt_heap H9
        have KR := Lib.hid (fun (W' : World) (hW : Below W6.heap.size W6 W') => show Calls Tryd.prog 49 #[.agg #[.slice F.A1 F.n1 F.c1, .slice F.A2 F.n2 F.c2, .bool F.u], .agg #[.slice G.A1 G.n1 G.c1, .slice G.A2 G.n2 G.c2, .bool G.u]] W' (fun e w' => e = .returned (.bool true) ∧ Below W'.heap.size W' w') from by
          have q := reqM F G W' (HFO.out.up hW) (HGO.out.up hW)
          rw [eqM_jn HFJ.out HGJ.out] at q
          exact q)
        have KA := Lib.hid (show ∃ q, (∀ W', Below W6.heap.size W6 W' → Calls Tryd.prog 50 #[.slice A n c, .agg #[.slice f.A1 f.n1 f.c1, .slice f.A2 f.n2 f.c2, .bool f.u], .agg #[.slice g.A1 g.n1 g.c1, .slice g.A2 g.n2 g.c2, .bool g.u]] W' (fun e w' => e = .returned (.bool q) ∧ Below W'.heap.size W' w')) ∧ (∀ W', Below W6.heap.size W6 W' → Calls Tryd.prog 51 #[.slice A n c, .agg #[.slice f.A1 f.n1 f.c1, .slice f.A2 f.n2 f.c2, .bool f.u], .agg #[.slice g.A1 g.n1 g.c1, .slice g.A2 g.n2 g.c2, .bool g.u]] W' (fun e w' => e = .returned (.bool q) ∧ Below W'.heap.size W' w')) from ⟨asM L f g, fun W' hW => masM A n c L f g W' HN.out (by omega) ((HL.out.up hB).up hW) ((HF.out.up hB).up hW) ((HG.out.up hB).up hW), fun W' hW => rasM A n c L f g W' HN.out (by omega) HM.out HV.out ((HL.out.up hB).up hW) ((HF.out.up hB).up hW) ((HG.out.up hB).up hW)⟩)
        have KE := Lib.hid (show ∃ q, (∀ W', Below W6.heap.size W6 W' → Calls Tryd.prog 52 #[.agg #[.slice f.A1 f.n1 f.c1, .slice f.A2 f.n2 f.c2, .bool f.u], .agg #[.slice g.A1 g.n1 g.c1, .slice g.A2 g.n2 g.c2, .bool g.u]] W' (fun e w' => e = .returned (.bool q) ∧ Below W'.heap.size W' w')) ∧ (∀ W', Below W6.heap.size W6 W' → Calls Tryd.prog 49 #[.agg #[.slice f.A1 f.n1 f.c1, .slice f.A2 f.n2 f.c2, .bool f.u], .agg #[.slice g.A1 g.n1 g.c1, .slice g.A2 g.n2 g.c2, .bool g.u]] W' (fun e w' => e = .returned (.bool q) ∧ Below W'.heap.size W' w')) from ⟨eqM f g, fun W' hW => meqM f g W' ((HF.out.up hB).up hW) ((HG.out.up hB).up hW), fun W' hW => reqM f g W' ((HF.out.up hB).up hW) ((HG.out.up hB).up hW)⟩)
        have KX := Lib.hid (fun (W' : World) (hW : Below W6.heap.size W6 W') => show Calls Tryd.prog 52 #[.agg #[.slice f.A1 f.n1 f.c1, .slice f.A2 f.n2 f.c2, .bool f.u], .agg #[.slice f.A1 f.n1 f.c1, .slice f.A2 f.n2 f.c2, .bool f.u]] W' (fun e w' => e = .returned (.bool true) ∧ Below W'.heap.size W' w') from by
          have q := meqM f f W' ((HF.out.up hB).up hW) ((HF.out.up hB).up hW)
          rw [eqM_self] at q
          exact q)
        obtain ⟨qa, KA1, KA2⟩ := KA.out
        obtain ⟨qe, KE1, KE2⟩ := KE.out
        replace KA1 := Lib.hid KA1
        replace KA2 := Lib.hid KA2
        replace KE1 := Lib.hid KE1
        replace KE2 := Lib.hid KE2
        have HB := Lib.hid hB
        have KS := Lib.hid (fun (w' : World) (hb : Below W6.heap.size W6 w') => show (fun (w' : World) => w'.cell? ⟨w.heap.size, 0, none⟩ = some (.slice f.A1 f.n1 f.c1) ∧ w'.cell? ⟨w.heap.size, 1, none⟩ = some (.slice f.A2 f.n2 f.c2) ∧ w'.cell? ⟨w.heap.size, 2, none⟩ = some (.bool f.u) ∧ w'.cell? ⟨w.heap.size + 1, 0, none⟩ = some (.slice g.A1 g.n1 g.c1) ∧ w'.cell? ⟨w.heap.size + 1, 1, none⟩ = some (.slice g.A2 g.n2 g.c2) ∧ w'.cell? ⟨w.heap.size + 1, 2, none⟩ = some (.bool g.u) ∧ w'.cell? ⟨B7, 0, none⟩ = some (.slice F.A1 F.n1 F.c1) ∧ w'.cell? ⟨B7, 1, none⟩ = some (.slice F.A2 F.n2 F.c2) ∧ w'.cell? ⟨B7, 2, none⟩ = some (.bool F.u) ∧ w'.cell? ⟨B9, 0, none⟩ = some (.slice G.A1 G.n1 G.c1) ∧ w'.cell? ⟨B9, 1, none⟩ = some (.slice G.A2 G.n2 G.c2) ∧ w'.cell? ⟨B9, 2, none⟩ = some (.bool G.u) ∧ Below W6.heap.size W6 w') w' from ⟨(hb.cell (p := ⟨w.heap.size, 0, none⟩) hlH0).trans kH00, (hb.cell (p := ⟨w.heap.size, 1, none⟩) hlH0).trans kH01, (hb.cell (p := ⟨w.heap.size, 2, none⟩) hlH0).trans kH02, (hb.cell (p := ⟨w.heap.size + 1, 0, none⟩) hlH1).trans kH10, (hb.cell (p := ⟨w.heap.size + 1, 1, none⟩) hlH1).trans kH11, (hb.cell (p := ⟨w.heap.size + 1, 2, none⟩) hlH1).trans kH12, (hb.cell (p := ⟨B7, 0, none⟩) hlH7).trans kH70, (hb.cell (p := ⟨B7, 1, none⟩) hlH7).trans kH71, (hb.cell (p := ⟨B7, 2, none⟩) hlH7).trans kH72, (hb.cell (p := ⟨B9, 0, none⟩) hlH9).trans kH90, (hb.cell (p := ⟨B9, 1, none⟩) hlH9).trans kH91, (hb.cell (p := ⟨B9, 2, none⟩) hlH9).trans kH92, hb⟩)
        clear H0 H1 H7 H9 hB KA KE
        have hW0 := Below.refl W6.heap.size W6
        go_region_held3 (fun (w' : World) => w'.cell? ⟨w.heap.size, 0, none⟩ = some (.slice f.A1 f.n1 f.c1) ∧ w'.cell? ⟨w.heap.size, 1, none⟩ = some (.slice f.A2 f.n2 f.c2) ∧ w'.cell? ⟨w.heap.size, 2, none⟩ = some (.bool f.u) ∧ w'.cell? ⟨w.heap.size + 1, 0, none⟩ = some (.slice g.A1 g.n1 g.c1) ∧ w'.cell? ⟨w.heap.size + 1, 1, none⟩ = some (.slice g.A2 g.n2 g.c2) ∧ w'.cell? ⟨w.heap.size + 1, 2, none⟩ = some (.bool g.u) ∧ w'.cell? ⟨B7, 0, none⟩ = some (.slice F.A1 F.n1 F.c1) ∧ w'.cell? ⟨B7, 1, none⟩ = some (.slice F.A2 F.n2 F.c2) ∧ w'.cell? ⟨B7, 2, none⟩ = some (.bool F.u) ∧ w'.cell? ⟨B9, 0, none⟩ = some (.slice G.A1 G.n1 G.c1) ∧ w'.cell? ⟨B9, 1, none⟩ = some (.slice G.A2 G.n2 G.c2) ∧ w'.cell? ⟨B9, 2, none⟩ = some (.bool G.u) ∧ Below W6.heap.size W6 w') (((try go_split_ands); (first | (exact KS.out _ (below_on (w := W6) (by assumption) hq)) | (exact KS.out _ (Below.drew (by assumption))) | ((repeat' apply And.intro) <;> (first | assumption | go_keep)))))
          (first | (go_at_call 49; (with_reducible refine (KR.out _ ?_).mono ?_); (first | assumption | (go_split_ands; assumption)); rintro e wq ⟨rfl, hq⟩) | (go_at_call 50; (with_reducible refine (KA1.out _ ?_).mono ?_); (first | assumption | (go_split_ands; assumption)); rintro e wq ⟨rfl, hq⟩) | (go_at_call 51; (with_reducible refine (KA2.out _ ?_).mono ?_); (first | assumption | (go_split_ands; assumption)); rintro e wq ⟨rfl, hq⟩) | (go_at_call 52; (with_reducible refine (KE1.out _ ?_).mono ?_); (first | assumption | (go_split_ands; assumption)); rintro e wq ⟨rfl, hq⟩) | (go_at_call 49; (with_reducible refine (KE2.out _ ?_).mono ?_); (first | assumption | (go_split_ands; assumption)); rintro e wq ⟨rfl, hq⟩) | (go_at_call 52; (with_reducible refine (KX.out _ ?_).mono ?_); (first | assumption | (go_split_ands; assumption)); rintro e wq ⟨rfl, hq⟩) | (go_at_call 41; (with_reducible refine (works18_any _).mono ?_); rintro e wq ⟨rfl, hq⟩))
        go_wp2
        go_ret
        refine ⟨rfl, ?_⟩
        go_split_ands
        exact below_on HB.out (by assumption)
      · go_enter Tryd.func11, Tryd.ntmps11
        go_upto_region 1 with fail
        obtain ⟨H0, H1, hB⟩ := two_laid w (.cells #[.slice f.A1 f.n1 f.c1, .slice f.A2 f.n2 f.c2, .bool f.u] 56) (.cells #[.slice g.A1 g.n1 g.c1, .slice g.A2 g.n2 g.c2, .bool g.u] 56)
        generalize (w.alloc (.cells #[.slice f.A1 f.n1 f.c1, .slice f.A2 f.n2 f.c2, .bool f.u] 56)).alloc (.cells #[.slice g.A1 g.n1 g.c1, .slice g.A2 g.n2 g.c2, .bool g.u] 56) = W at H0 H1 hB ⊢
        obtain ⟨xa0, xa1, xa2, fa0, fa1, fa2⟩ := three_cells H0; obtain ⟨xb0, xb1, xb2, fb0, fb1, fb2⟩ := three_cells H1
        go_upto_region 3 with (first | (go_at_call 46; (with_reducible refine (KF.out _ hB).mono ?_); rintro e w1 ⟨rfl, hb1⟩; replace H0 := (hb1.block _ (lt_heap H0)).trans H0; replace H1 := (hb1.block _ (lt_heap H1)).trans H1; replace hB := below_on hB hb1; clear hb1 xa0 xa1 xa2 fa0 fa1 fa2 xb0 xb1 xb2 fb0 fb1 fb2; obtain ⟨xa0, xa1, xa2, fa0, fa1, fa2⟩ := three_cells H0; obtain ⟨xb0, xb1, xb2, fb0, fb1, fb2⟩ := three_cells H1) | (go_at_call 46; (with_reducible refine (KG.out _ hB).mono ?_); rintro e w1 ⟨rfl, hb1⟩; replace H0 := (hb1.block _ (lt_heap H0)).trans H0; replace H1 := (hb1.block _ (lt_heap H1)).trans H1; replace hB := below_on hB hb1; clear hb1 xa0 xa1 xa2 fa0 fa1 fa2 xb0 xb1 xb2 fb0 fb1 fb2; obtain ⟨xa0, xa1, xa2, fa0, fa1, fa2⟩ := three_cells H0; obtain ⟨xb0, xb1, xb2, fb0, fb1, fb2⟩ := three_cells H1))
        go_upto_region 4 with (go_at_call 47; (with_reducible refine (mfrB (.slice A n c) f g _ hsh).mono ?_); rintro e w1 ⟨rfl, hb1⟩; replace H0 := (hb1.block _ (lt_heap H0)).trans H0; replace H1 := (hb1.block _ (lt_heap H1)).trans H1; replace hB := below_on hB hb1; clear hb1 xa0 xa1 xa2 fa0 fa1 fa2 xb0 xb1 xb2 fb0 fb1 fb2; obtain ⟨xa0, xa1, xa2, fa0, fa1, fa2⟩ := three_cells H0; obtain ⟨xb0, xb1, xb2, fb0, fb1, fb2⟩ := three_cells H1)
        have H7 := World.alloc_heap_new w1 (.cells #[.slice none 0 0, .slice none 0 0, .bool false] 56)
        replace H0 := laid_old (o' := (.cells #[.slice none 0 0, .slice none 0 0, .bool false] 56)) H0
        replace H1 := laid_old (o' := (.cells #[.slice none 0 0, .slice none 0 0, .bool false] 56)) H1
        replace hB := below_al hB (.cells #[.slice none 0 0, .slice none 0 0, .bool false] 56)
        skip
        generalize w1.alloc (.cells #[.slice none 0 0, .slice none 0 0, .bool false] 56) = W2 at H7 H0 H1 hB ⊢
        generalize w1.heap.size = B7 at H7 ⊢
        clear xa0 xa1 xa2 fa0 fa1 fa2 xb0 xb1 xb2 fb0 fb1 fb2
        obtain ⟨xa0, xa1, xa2, fa0, fa1, fa2⟩ := three_cells H0; obtain ⟨xb0, xb1, xb2, fb0, fb1, fb2⟩ := three_cells H1
        go_upto_region 5 with (go_at_call 48; (with_reducible refine (rfrB (.slice A n c) f g _ hsh).mono ?_); rintro e w1 ⟨rfl, hb1⟩; replace H7 := (hb1.block _ (lt_heap H7)).trans H7; replace H0 := (hb1.block _ (lt_heap H0)).trans H0; replace H1 := (hb1.block _ (lt_heap H1)).trans H1; replace hB := below_on hB hb1; clear hb1 xa0 xa1 xa2 fa0 fa1 fa2 xb0 xb1 xb2 fb0 fb1 fb2; obtain ⟨xa0, xa1, xa2, fa0, fa1, fa2⟩ := three_cells H0; obtain ⟨xb0, xb1, xb2, fb0, fb1, fb2⟩ := three_cells H1)
        have H9 := World.alloc_heap_new w1 (.cells #[.slice none 0 0, .slice none 0 0, .bool false] 56)
        replace H0 := laid_old (o' := (.cells #[.slice none 0 0, .slice none 0 0, .bool false] 56)) H0
        replace H1 := laid_old (o' := (.cells #[.slice none 0 0, .slice none 0 0, .bool false] 56)) H1
        replace H7 := laid_old (o' := (.cells #[.slice none 0 0, .slice none 0 0, .bool false] 56)) H7
        replace hB := below_al hB (.cells #[.slice none 0 0, .slice none 0 0, .bool false] 56)
        skip
        generalize w1.alloc (.cells #[.slice none 0 0, .slice none 0 0, .bool false] 56) = W6 at H9 H7 H0 H1 hB ⊢
        generalize w1.heap.size = B9 at H9 ⊢
        clear xa0 xa1 xa2 fa0 fa1 fa2 xb0 xb1 xb2 fb0 fb1 fb2
        obtain ⟨kH00, kH01, kH02, _, _, _⟩ := three_cells H0
        have hlH0 := lt_heap H0
        obtain ⟨kH10, kH11, kH12, _, _, _⟩ := three_cells H1
        have hlH1 := lt_heap H1
        obtain ⟨kH70, kH71, kH72, _, _, _⟩ := three_cells H7
        have hlH7 := lt_heap H7
        obtain ⟨kH90, kH91, kH92, _, _, _⟩ := three_cells H9
        have hlH9 := lt_heap H9
        have KR := Lib.hid (fun (W' : World) (hW : Below W6.heap.size W6 W') => show Calls Tryd.prog 49 #[frZ, frZ] W' (fun e w' => e = .returned (.bool true) ∧ Below W'.heap.size W' w') from by
          have q := reqM fmZ fmZ W' (fmZ_ok _) (fmZ_ok _)
          rw [eqM_z] at q
          exact q)
        have KA := Lib.hid (show ∃ q, (∀ W', Below W6.heap.size W6 W' → Calls Tryd.prog 50 #[.slice A n c, .agg #[.slice f.A1 f.n1 f.c1, .slice f.A2 f.n2 f.c2, .bool f.u], .agg #[.slice g.A1 g.n1 g.c1, .slice g.A2 g.n2 g.c2, .bool g.u]] W' (fun e w' => e = .returned (.bool q) ∧ Below W'.heap.size W' w')) ∧ (∀ W', Below W6.heap.size W6 W' → Calls Tryd.prog 51 #[.slice A n c, .agg #[.slice f.A1 f.n1 f.c1, .slice f.A2 f.n2 f.c2, .bool f.u], .agg #[.slice g.A1 g.n1 g.c1, .slice g.A2 g.n2 g.c2, .bool g.u]] W' (fun e w' => e = .returned (.bool q) ∧ Below W'.heap.size W' w')) from ⟨asM L f g, fun W' hW => masM A n c L f g W' HN.out (by omega) ((HL.out.up hB).up hW) ((HF.out.up hB).up hW) ((HG.out.up hB).up hW), fun W' hW => rasM A n c L f g W' HN.out (by omega) HM.out HV.out ((HL.out.up hB).up hW) ((HF.out.up hB).up hW) ((HG.out.up hB).up hW)⟩)
        have KE := Lib.hid (show ∃ q, (∀ W', Below W6.heap.size W6 W' → Calls Tryd.prog 52 #[.agg #[.slice f.A1 f.n1 f.c1, .slice f.A2 f.n2 f.c2, .bool f.u], .agg #[.slice g.A1 g.n1 g.c1, .slice g.A2 g.n2 g.c2, .bool g.u]] W' (fun e w' => e = .returned (.bool q) ∧ Below W'.heap.size W' w')) ∧ (∀ W', Below W6.heap.size W6 W' → Calls Tryd.prog 49 #[.agg #[.slice f.A1 f.n1 f.c1, .slice f.A2 f.n2 f.c2, .bool f.u], .agg #[.slice g.A1 g.n1 g.c1, .slice g.A2 g.n2 g.c2, .bool g.u]] W' (fun e w' => e = .returned (.bool q) ∧ Below W'.heap.size W' w')) from ⟨eqM f g, fun W' hW => meqM f g W' ((HF.out.up hB).up hW) ((HG.out.up hB).up hW), fun W' hW => reqM f g W' ((HF.out.up hB).up hW) ((HG.out.up hB).up hW)⟩)
        have KX := Lib.hid (fun (W' : World) (hW : Below W6.heap.size W6 W') => show Calls Tryd.prog 52 #[.agg #[.slice f.A1 f.n1 f.c1, .slice f.A2 f.n2 f.c2, .bool f.u], .agg #[.slice f.A1 f.n1 f.c1, .slice f.A2 f.n2 f.c2, .bool f.u]] W' (fun e w' => e = .returned (.bool true) ∧ Below W'.heap.size W' w') from by
          have q := meqM f f W' ((HF.out.up hB).up hW) ((HF.out.up hB).up hW)
          rw [eqM_self] at q
          exact q)
        obtain ⟨qa, KA1, KA2⟩ := KA.out
        obtain ⟨qe, KE1, KE2⟩ := KE.out
        replace KA1 := Lib.hid KA1
        replace KA2 := Lib.hid KA2
        replace KE1 := Lib.hid KE1
        replace KE2 := Lib.hid KE2
        have HB := Lib.hid hB
        have KS := Lib.hid (fun (w' : World) (hb : Below W6.heap.size W6 w') => show (fun (w' : World) => w'.cell? ⟨w.heap.size, 0, none⟩ = some (.slice f.A1 f.n1 f.c1) ∧ w'.cell? ⟨w.heap.size, 1, none⟩ = some (.slice f.A2 f.n2 f.c2) ∧ w'.cell? ⟨w.heap.size, 2, none⟩ = some (.bool f.u) ∧ w'.cell? ⟨w.heap.size + 1, 0, none⟩ = some (.slice g.A1 g.n1 g.c1) ∧ w'.cell? ⟨w.heap.size + 1, 1, none⟩ = some (.slice g.A2 g.n2 g.c2) ∧ w'.cell? ⟨w.heap.size + 1, 2, none⟩ = some (.bool g.u) ∧ w'.cell? ⟨B7, 0, none⟩ = some (.slice none 0 0) ∧ w'.cell? ⟨B7, 1, none⟩ = some (.slice none 0 0) ∧ w'.cell? ⟨B7, 2, none⟩ = some (.bool false) ∧ w'.cell? ⟨B9, 0, none⟩ = some (.slice none 0 0) ∧ w'.cell? ⟨B9, 1, none⟩ = some (.slice none 0 0) ∧ w'.cell? ⟨B9, 2, none⟩ = some (.bool false) ∧ Below W6.heap.size W6 w') w' from ⟨(hb.cell (p := ⟨w.heap.size, 0, none⟩) hlH0).trans kH00, (hb.cell (p := ⟨w.heap.size, 1, none⟩) hlH0).trans kH01, (hb.cell (p := ⟨w.heap.size, 2, none⟩) hlH0).trans kH02, (hb.cell (p := ⟨w.heap.size + 1, 0, none⟩) hlH1).trans kH10, (hb.cell (p := ⟨w.heap.size + 1, 1, none⟩) hlH1).trans kH11, (hb.cell (p := ⟨w.heap.size + 1, 2, none⟩) hlH1).trans kH12, (hb.cell (p := ⟨B7, 0, none⟩) hlH7).trans kH70, (hb.cell (p := ⟨B7, 1, none⟩) hlH7).trans kH71, (hb.cell (p := ⟨B7, 2, none⟩) hlH7).trans kH72, (hb.cell (p := ⟨B9, 0, none⟩) hlH9).trans kH90, (hb.cell (p := ⟨B9, 1, none⟩) hlH9).trans kH91, (hb.cell (p := ⟨B9, 2, none⟩) hlH9).trans kH92, hb⟩)
        clear H0 H1 H7 H9 hB KA KE
        have hW0 := Below.refl W6.heap.size W6
        go_region_held3 (fun (w' : World) => w'.cell? ⟨w.heap.size, 0, none⟩ = some (.slice f.A1 f.n1 f.c1) ∧ w'.cell? ⟨w.heap.size, 1, none⟩ = some (.slice f.A2 f.n2 f.c2) ∧ w'.cell? ⟨w.heap.size, 2, none⟩ = some (.bool f.u) ∧ w'.cell? ⟨w.heap.size + 1, 0, none⟩ = some (.slice g.A1 g.n1 g.c1) ∧ w'.cell? ⟨w.heap.size + 1, 1, none⟩ = some (.slice g.A2 g.n2 g.c2) ∧ w'.cell? ⟨w.heap.size + 1, 2, none⟩ = some (.bool g.u) ∧ w'.cell? ⟨B7, 0, none⟩ = some (.slice none 0 0) ∧ w'.cell? ⟨B7, 1, none⟩ = some (.slice none 0 0) ∧ w'.cell? ⟨B7, 2, none⟩ = some (.bool false) ∧ w'.cell? ⟨B9, 0, none⟩ = some (.slice none 0 0) ∧ w'.cell? ⟨B9, 1, none⟩ = some (.slice none 0 0) ∧ w'.cell? ⟨B9, 2, none⟩ = some (.bool false) ∧ Below W6.heap.size W6 w') (((try go_split_ands); (first | (exact KS.out _ (below_on (w := W6) (by assumption) hq)) | (exact KS.out _ (Below.drew (by assumption))) | ((repeat' apply And.intro) <;> (first | assumption | go_keep)))))
          (first | (go_at_call 49; (with_reducible refine (KR.out _ ?_).mono ?_); (first | assumption | (go_split_ands; assumption)); rintro e wq ⟨rfl, hq⟩) | (go_at_call 50; (with_reducible refine (KA1.out _ ?_).mono ?_); (first | assumption | (go_split_ands; assumption)); rintro e wq ⟨rfl, hq⟩) | (go_at_call 51; (with_reducible refine (KA2.out _ ?_).mono ?_); (first | assumption | (go_split_ands; assumption)); rintro e wq ⟨rfl, hq⟩) | (go_at_call 52; (with_reducible refine (KE1.out _ ?_).mono ?_); (first | assumption | (go_split_ands; assumption)); rintro e wq ⟨rfl, hq⟩) | (go_at_call 49; (with_reducible refine (KE2.out _ ?_).mono ?_); (first | assumption | (go_split_ands; assumption)); rintro e wq ⟨rfl, hq⟩) | (go_at_call 52; (with_reducible refine (KX.out _ ?_).mono ?_); (first | assumption | (go_split_ands; assumption)); rintro e wq ⟨rfl, hq⟩) | (go_at_call 41; (with_reducible refine (works18_any _).mono ?_); rintro e wq ⟨rfl, hq⟩))
        go_wp2
        go_ret
        refine ⟨rfl, ?_⟩
        go_split_ands
        exact below_on HB.out (by assumption)
end Go.Proofs.YthifmcnemeiphaaDoor

namespace Go.Proofs.YthifmcnemeiphaaDoor.mergeFramesUpto
open Go.ChangeShapes Go.WideShapes Go.ChangeAt Go.RowKit
open Go.ChangeMaps (open_string shut_string)
set_option linter.unusedVariables false
set_option linter.unusedSimpArgs false

theorem own : ownKnob Tryd.prog.godebug = none := by kernel_rfl

set_option maxRecDepth 100000 in
theorem contract (H : Type) (enc : TypeId × Value → H) (W : World) (base : Nat) (args : Array Value) (ds gs : List (DataW H)) (before : List MemPlace)
    (hval0 : ∀ (j : Nat) t v, Tryd.f11.params[j]? = some t → args[j]? = some v → Value.okWide Tryd.prog W .any base t v)
    (hW : DataW.Whole enc Tryd.prog Tryd.f11.params.toList Rows.mergeFramesSpec.vars false W args.toList ds gs before)
    (hsz : (DataW.weightsEach Tryd.prog (Tryd.f11.params.toList ++ (OpenSpec.ofChange Rows.mergeFramesSpec).bare.plain.varTypes Tryd.prog) (ds ++ gs)).all (· ≤ reachBytes) = true)
    (hL : laidMetH Tryd.prog Rows.mergeFramesUptoRow.laid W) (hSh : W.ShapedOpen Tryd.prog) (hk : Rows.uptoSmall H (ds ++ gs) = true) :
    Calls Tryd.prog 11 args W fun e W' => ∃ v, e = .returned v ∧ Rows.mergeFramesSpec.post enc Tryd.prog Tryd.f11 false true false false W args v W' := by
  have hval := hval0
  have hW' := hW
  have low := fun x hx => hW.lt x hx
  obtain ⟨p, q, hA0, hV, rfl, hfz, hnd⟩ := hW
  have hA : DataW.TrodAll enc Tryd.prog W 0 (fun _ => true) true Tryd.f11.params.toList args.toList ds p := hA0
  rw [Tryd.params11] at hA hval hsz
  obtain ⟨v0, vs0, d0, ds0, p0, q0, hargs, rfl, rfl, h0, r0⟩ := trodAll_cons hA
  obtain ⟨v1, vs1, d1, ds1, p1, q1, rfl, rfl, rfl, h1, r1⟩ := trodAll_cons r0
  obtain ⟨v2, vs2, d2, ds2, p2, q2, rfl, rfl, rfl, h2, r2⟩ := trodAll_cons r1
  obtain ⟨rfl, rfl, rfl⟩ := trodAll_nil r2
  obtain rfl : args = #[v0, v1, v2] := by cases args; simp_all
  obtain ⟨rfl, rfl⟩ := trodVars_none hV
  have g0 := h0
  obtain ⟨A0, n0, c0, L0, rfl, hn0, hc0, hm0, hp0, hq0⟩ := open_cis_bulk (hval 0 22 v0 rfl rfl) h0
  have hb0 : Rows.uptoBulk d0 ≤ 1048576 := Nat.le_trans (bulk_mem (by simp)) (of_decide_eq_true hk)
  have hM0 : (names L0).length ≤ 2000000 := by omega
  have g1 := h1
  obtain ⟨f1, rfl, hf1⟩ := open_fm_of (hval 1 56 v1 rfl rfl) h1
  have g2 := h2
  obtain ⟨f2, rfl, hf2⟩ := open_fm_of (hval 2 56 v2 rfl rfl) h2
  clear hA0 hval0
  simp only [List.append_nil, List.nil_append] at hW'
  refine (mframes_law A0 n0 c0 L0 f1 f2 W hn0 hc0 hm0 hM0 hp0 hf1 hf2).mono fun e W' ⟨he, hg⟩ => ?_
  subst he
  exact ⟨_, rfl, post_law hW' rfl (fun _ _ _ => (trodAll_cons_mk (shut_bool Tryd.underlying4 _) trodAll_mk0)) (fun sp hsp => by have q := (trodAll_cons_mk (WideElems.Trod_stays (by kernel_rfl) (by kernel_rfl) (of_decide_eq_true (by kernel_rfl)) g0 (fun x hx => hg.same (low x (by first | exact absurd hx (by simp; done) | simp [hx]))) (fun x hx => hsp x (by first | exact absurd hx (by simp; done) | simp [hx]))) (trodAll_cons_mk (WideElems.Trod_stays (by kernel_rfl) (by kernel_rfl) (of_decide_eq_true (by kernel_rfl)) g1 (fun x hx => hg.same (low x (by first | exact absurd hx (by simp; done) | simp [hx]))) (fun x hx => hsp x (by first | exact absurd hx (by simp; done) | simp [hx]))) (trodAll_cons_mk (WideElems.Trod_stays (by kernel_rfl) (by kernel_rfl) (of_decide_eq_true (by kernel_rfl)) g2 (fun x hx => hg.same (low x (by first | exact absurd hx (by simp; done) | simp [hx]))) (fun x hx => hsp x (by first | exact absurd hx (by simp; done) | simp [hx]))) (trodAll_mk0 (enc := enc) (P := Tryd.prog) (w := W') (base := 0) (spare := sp) (held := true))))); (try simp only [List.append_nil, List.nil_append] at q); exact q) rfl
    hg (ok_one (by kernel_rfl) rfl (okWide_bool_mk Tryd.underlying4 _))⟩

/-- a world for the witness: the settled one, the listed variables holding what their initialisers lay -/
noncomputable def laidWorld (os : Os) : World := World.laidAll Tryd.prog os Rows.mergeFramesUptoRow.laid
theorem laid_met (os : Os) : laidMet Tryd.prog Rows.mergeFramesUptoRow.laid ((laidWorld os).forCall (fun _ _ => 0) ⟨#[], #[.slice none 0 0, .agg #[.slice none 0 0, .slice none 0 0, .bool false], .agg #[.slice none 0 0, .slice none 0 0, .bool false]], []⟩).memory :=
  laidMet_laidAll _ (by kernel_rfl) (by kernel_rfl)
theorem reads (os : Os) {H : Type} (enc : TypeId × Value → H) : ∃ places, DataW.whole enc Tryd.prog ((laidWorld os).forCall (fun _ _ => 0) ⟨#[], #[.slice none 0 0, .agg #[.slice none 0 0, .slice none 0 0, .bool false], .agg #[.slice none 0 0, .slice none 0 0, .bool false]], []⟩).memory Tryd.f11.params.toList Rows.mergeFramesSpec.vars false #[Value.slice none 0 0, .agg #[.slice none 0 0, .slice none 0 0, .bool false], .agg #[.slice none 0 0, .slice none 0 0, .bool false]].toList 8 = some ([.nil, .agg [.nil, .nil, .lit (.bool false)], .agg [.nil, .nil, .lit (.bool false)]], [], places) :=
  ⟨[], by kernel_rfl⟩

set_option maxRecDepth 100000 in
theorem lifted (os : Os) (started : os.Started) (H : Type) (enc : TypeId × Value → H) (F : Stop.Interp) :
    ReturnsInHanded {} Tryd.checked os 11 .any ((Rows.OpenSpec.upto Rows.mergeFramesSpec).preRow enc Tryd.prog Tryd.f11 Rows.mergeFramesUptoRow.domain false Rows.mergeFramesUptoRow.laid) (((Rows.OpenSpec.upto Rows.mergeFramesSpec).at F).post enc Tryd.prog Tryd.f11 false true false false) := by
  obtain ⟨places, hx⟩ := reads os enc
  refine returnsInHanded_of_row (C := Tryd.checked) (s := Rows.OpenSpec.upto Rows.mergeFramesSpec) own started (by kernel_rfl) Tryd.func11
    (witness_row_at (enc := enc) (C := Tryd.checked) false (laidWorld os) #[.slice none 0 0, .agg #[.slice none 0 0, .slice none 0 0, .bool false], .agg #[.slice none 0 0, .slice none 0 0, .bool false]] (World.laidAll_os _ _ _) (by kernel_rfl) (by kernel_rfl) (by kernel_rfl)
      (OpenSpec.preRow_of_cond 8 hx (by kernel_rfl) (fun k hk => by cases hk; kernel_rfl) (by kernel_rfl) (laid_met os))) ?_
  intro W base args ds gs before hval hW u1 u2 hsz hL hSh _
  first | exact contract H enc W base args ds gs before hval hW hsz hL hSh (u2 _ rfl) | exact contract H enc W base args ds gs before hval hW hsz hL hSh (u1 _ rfl)

theorem said : Rows.MergeFramesUptoSaid :=
  OpenClaim.holds_of_cond 11 Tryd.f11 rfl rfl rfl rfl rfl rfl rfl ⟨rfl, rfl, rfl, rfl, rfl⟩ rfl rfl rfl rfl rfl (by kernel_rfl) Tryd.func11 (by kernel_rfl)
    (of_decide_eq_true (by kernel_rfl)) (by unfold Func.isWrapper; first | (rw [if_pos (by decide +kernel)]; kernel_rfl) | (rw [if_neg (by decide +kernel)]; exact ⟨rfl, rfl⟩))
    (fun os started H enc _ F => by rw [OpenClaim.pre_eq_preRow]; exact lifted os started H enc F)

theorem plain (f : FuncId) (fn : Func) (hf : Tryd.pinned.checked.prog.funcNamed "armature/armaturelaw18.MergeFrames" = some f) (hfn : Tryd.pinned.checked.prog.funcs[f]? = some fn) :
    false = Tryd.pinned.checked.prog.looks [] ∧ ∀ (j : Nat) t, fn.params[j]? = some t → Tryd.pinned.checked.prog.wantsStandIn t = false := by
  obtain rfl : f = 11 := Option.some.inj ((show Tryd.prog.funcNamed "armature/armaturelaw18.MergeFrames" = some 11 by kernel_rfl).symm.trans hf) |>.symm
  obtain rfl : fn = Tryd.f11 := (Option.some.inj (Tryd.func11.symm.trans hfn)).symm
  refine ⟨by kernel_rfl, fun j t ht => ?_⟩
  rw [Tryd.params11] at ht
  obtain rfl | rfl : t = 22 ∨ t = 56 := by simpa using Array.mem_of_getElem? ht
  · exact (show Tryd.prog.wantsStandIn 22 = false by kernel_rfl)
  · exact (show Tryd.prog.wantsStandIn 56 = false by kernel_rfl)

theorem proved : Rows.MergeFramesUptoCardSaid :=
  Claim7.holds_tied_plain_at .later [] _ _ _ _ said (fun _ h => by cases h) (by kernel_rfl) (fun _ h => by cases h) mergeFramesUpto_row_tie rfl ⟨rfl, rfl⟩ (by kernel_rfl) rfl plain (by kernel_rfl)
#print axioms proved
end Go.Proofs.YthifmcnemeiphaaDoor.mergeFramesUpto
