import Derived.Test.YthfegbhbokhlkaaGreatDoorGhM
import Derived.Test.YthfegbhbokhlkaaGreatDoorPoolAdd

/- Go -/
/- Layer 11: the reference's Same answers true of equal files. -/
namespace Go.Proofs.YthfegbhbokhlkaaGreatDoor
open Go.ChangeShapes Go.WideShapes Go.ChangeAt Go.RowKit Go.PlainAid
set_option linter.unusedSimpArgs false
set_option linter.unusedVariables false

theorem at_eqIn (x : Atr) (w : World) : (Op.equalIn 10000 93 (.agg #[.int .i64 x.n, .string x.s]) (.agg #[.int .i64 x.n, .string x.s])).run Tryz.prog w = .ok true w := by simp [go_sem]
theorem at_neq (x : Atr) (w : World) : (binOp .neq 93 (.agg #[.int .i64 x.n, .string x.s]) (.agg #[.int .i64 x.n, .string x.s])).run Tryz.prog w = .ok (.bool false) w := by rw [run_neq_struct, at_eqIn]; rfl
def YesQ (w : World) (e : Ending) (w' : World) : Prop := e = .returned (.bool true) ∧ ∃ q, w' = w.drewN q
set_option maxRecDepth 100000 in
set_option maxHeartbeats 1000000 in
theorem sameAs_yes {A1 A2 : Option Addr} {n c1 c2 : Nat} {L : List Atr} (w : World) (h1 : RowAt aF 2 w A1 L) (h2 : RowAt aF 2 w A2 L) (hl : L.length = n) (hn : n ≤ 100000) :
    Calls Tryz.prog 41 #[.slice A1 n c1, .slice A2 n c2] w (YesQ w) := by
  have H1 := Lib.hid h1
  have H2 := Lib.hid h2
  have HL := Lib.hid hl
  clear h1 h2 hl
  go_enter Tryz.func41, Tryz.ntmps41
  go_wp2
  go_loopw [5] (fun i wr => ∃ k q : Nat, k ≤ n ∧ i = .int .i64 k ∧ wr = w.drewN q) (fun i _ => n - (intOf i).toNat)
  case atStart => exact ⟨0, 0, Nat.zero_le _, rfl, rfl⟩
  case round =>
    obtain ⟨k, q, hkn, rfl, rfl⟩ := hrel
    by_cases hlt : k < n
    · obtain ⟨p, hp⟩ : ∃ p, L[k]? = some p := ⟨L[k]'(by rw [HL.out]; exact hlt), List.getElem?_eq_getElem _⟩
      obtain ⟨g, o, rfl, hg, hcell⟩ := H1.out.get hp
      obtain ⟨g', o', rfl, hg', hcell'⟩ := H2.out.get hp
      have a0 : w.cell? ⟨g, o + k * 2, none⟩ = some (.int .i64 p.n) := hcell 0 _ rfl
      have a1 : w.cell? ⟨g, o + k * 2 + 1, none⟩ = some (.string p.s) := hcell 1 _ rfl
      have b0 : w.cell? ⟨g', o' + k * 2, none⟩ = some (.int .i64 p.n) := hcell' 0 _ rfl
      have b1 : w.cell? ⟨g', o' + k * 2 + 1, none⟩ = some (.string p.s) := hcell' 1 _ rfl
      have hk0 : (0 : Int) ≤ (k : Int) := by omega
      have hk1 : (k : Int) < (n : Int) := by omega
      have e1 := fun w => at_neq p w
      clear hcell hcell' hp
      go_wp2
      go_quiet (fail)
      go_wp2
      go_roundw
      case rel => exact ⟨k + 1, _, by omega, by go_num, rfl⟩
      case measure => simp [intOf]; omega
    · obtain rfl : k = n := by omega
      go_wp2
      go_ret
      exact ⟨rfl, _, rfl⟩
set_option maxRecDepth 100000 in
set_option maxHeartbeats 2000000 in
theorem sameMs_yes {A1 A2 : Option Addr} {n c1 c2 : Nat} {L1 L2 : List Mb} (w : World) (hv : L1.map Mb.v = L2.map Mb.v) (h1 : RowAt mF 4 w A1 L1) (h2 : RowAt mF 4 w A2 L2) (o1 : ∀ x ∈ L1, x.ok w) (o2 : ∀ x ∈ L2, x.ok w) (hl : L1.length = n) (hn : n ≤ 100000) (hk : ∀ x ∈ L1, x.k ≤ 100000) :
    Calls Tryz.prog 40 #[.slice A1 n c1, .slice A2 n c2] w (YesQ w) := by
  have H1 := Lib.hid h1
  have H2 := Lib.hid h2
  have HL := Lib.hid hl
  have HV := Lib.hid hv
  have O1 := Lib.hid o1
  have O2 := Lib.hid o2
  have HK := Lib.hid hk
  clear h1 h2 hl hv o1 o2 hk
  go_enter Tryz.func40, Tryz.ntmps40
  go_wp2
  go_loopw [5] (fun i wr => ∃ k : Nat, k ≤ n ∧ i = .int .i64 k ∧ ∃ q, wr = w.drewN q) (fun i _ => n - (intOf i).toNat)
  case atStart => exact ⟨0, Nat.zero_le _, rfl, 0, rfl⟩
  case round =>
    obtain ⟨k, hkn, rfl, hq⟩ := hrel
    have HQ := Lib.hid hq
    have he : ∀ a, wr.cell? a = w.cell? a := by
      obtain ⟨q, rfl⟩ := hq
      intro a; rfl
    have hrr : ∀ (x : Nat) (A : Option Addr) (L : List Atr), RowAt aF 2 w A L → RowAt aF 2 (wr.drewN x) A L := by
      obtain ⟨q, rfl⟩ := hq
      intro x A L h; exact h
    clear hq
    by_cases hlt : k < n
    · obtain ⟨p, hp⟩ : ∃ p, L1[k]? = some p := ⟨L1[k]'(by rw [HL.out]; exact hlt), List.getElem?_eq_getElem _⟩
      have hm := HV.out
      have hk2 : (L2.map Mb.v)[k]? = some p.v := by rw [← hm, List.getElem?_map, hp]; rfl
      rw [List.getElem?_map] at hk2
      obtain ⟨r, hr, hrv⟩ := Option.map_eq_some_iff.1 hk2
      obtain ⟨g, o, rfl, hg, hcell⟩ := H1.out.get hp
      obtain ⟨g', o', rfl, hg', hcell'⟩ := H2.out.get hr
      have hpo := O1.out p (List.mem_of_getElem? hp)
      have hro := O2.out r (List.mem_of_getElem? hr)
      have hpk := HK.out p (List.mem_of_getElem? hp)
      obtain ⟨pf, pn, pd, pA, pk, pc, pl⟩ := p
      obtain ⟨rf, rn, rd, rA, rk, rc, rl⟩ := r
      simp only [Mb.v, Mv.mk.injEq] at hrv
      obtain ⟨rfl, rfl, rfl, rfl⟩ := hrv
      have ep := hpo.len
      have er := hro.len
      simp only at ep er hpk
      obtain rfl : rk = pk := by omega
      have a0 : wr.cell? ⟨g, o + k * 4, none⟩ = some (.int .i64 rf) := (he _).trans (hcell 0 _ rfl)
      have a1 : wr.cell? ⟨g, o + k * 4 + 1, none⟩ = some (.int .i64 rn) := (he _).trans (hcell 1 _ rfl)
      have a2 : wr.cell? ⟨g, o + k * 4 + 2, none⟩ = some (.int .i64 rd) := (he _).trans (hcell 2 _ rfl)
      have a3 : wr.cell? ⟨g, o + k * 4 + 3, none⟩ = some (.slice pA rk pc) := (he _).trans (hcell 3 _ rfl)
      have b0 : wr.cell? ⟨g', o' + k * 4, none⟩ = some (.int .i64 rf) := (he _).trans (hcell' 0 _ rfl)
      have b1 : wr.cell? ⟨g', o' + k * 4 + 1, none⟩ = some (.int .i64 rn) := (he _).trans (hcell' 1 _ rfl)
      have b2 : wr.cell? ⟨g', o' + k * 4 + 2, none⟩ = some (.int .i64 rd) := (he _).trans (hcell' 2 _ rfl)
      have b3 : wr.cell? ⟨g', o' + k * 4 + 3, none⟩ = some (.slice rA rk rc) := (he _).trans (hcell' 3 _ rfl)
      have KA := Lib.hid (fun (x : Nat) => sameAs_yes (c1 := pc) (c2 := rc) (wr.drewN x) (hrr x _ _ hpo.row) (hrr x _ _ hro.row) ep hpk)
      clear he hrr
      have hk0 : (0 : Int) ≤ (k : Int) := by omega
      have hk1 : (k : Int) < (n : Int) := by omega
      clear hcell hcell' hp hr hk2 hm hpo hro ep er
      go_wp2
      go_quiet ((go_at_call 41; exact Calls.quiet_of (KA.out _)))
      go_wp2
      go_roundw
      case rel => exact ⟨k + 1, by omega, by go_num, HQ.out.elim fun y hy => ⟨_, by rw [hy, World.drewN_drewN]⟩⟩
      case measure => simp [intOf]; omega
    · obtain rfl : k = n := by omega
      go_wp2
      go_ret
      exact ⟨rfl, HQ.out⟩

end Go.Proofs.YthfegbhbokhlkaaGreatDoor

/- Gp -/
/- Layer 11: the reference's Same answers true of equal files. (gen/gp.py) -/
namespace Go.Proofs.YthfegbhbokhlkaaGreatDoor
open Go.ChangeShapes Go.WideShapes Go.ChangeAt Go.RowKit Go.PlainAid
set_option linter.unusedSimpArgs false
set_option linter.unusedVariables false

def Drn (W w' : World) : Prop := ∃ q, w' = W.drewN q
theorem Drn.cell {W w' : World} (h : Drn W w') (a : Addr) : w'.cell? a = W.cell? a := by obtain ⟨q, rfl⟩ := h; rfl
theorem Drn.row {W w' : World} (h : Drn W w') {α : Type} {F : α → List Value} {z : Nat} {A : Option Addr} {L : List α} (r : RowAt F z W A L) : RowAt F z w' A L := by obtain ⟨q, rfl⟩ := h; exact r
theorem Drn.mb {W w' : World} (h : Drn W w') {m : Mb} (r : m.ok W) : m.ok w' := by obtain ⟨q, rfl⟩ := h; exact ⟨r.len, r.row⟩
theorem Drn.more {W w' w'' : World} (h : Drn W w') (k : ∃ q, w'' = w'.drewN q) : Drn W w'' := by
  obtain ⟨q, rfl⟩ := h
  obtain ⟨r, rfl⟩ := k
  exact ⟨_, by rw [World.drewN_drewN]⟩
theorem Drn.below {w W w' : World} (h : Drn W w') (hb : Below w.heap.size w W) : Below w.heap.size w w' := by obtain ⟨q, rfl⟩ := h; exact below_dr hb q
set_option maxRecDepth 100000 in
set_option maxHeartbeats 4000000 in
theorem same_yes (F G : Fi) (w : World) (hF : F.ok w) (hG : G.ok w) (hv : F.v = G.v) (hf : F.few) (hp : F.pn ≤ 100000) : Calls Tryz.prog 12 #[F.val, G.val] w fun e w' => e = .returned (.bool true) ∧ Below w.heap.size w w' := by
  obtain ⟨p, pA, pn, pc, f, t, s, i, iA, ij, ic, m, mA, mj, mc, g, gA, gj, gc, a, aA, aj, ac⟩ := F
  obtain ⟨p2, pA2, pn2, pc2, f2, t2, s2, i2, iA2, ij2, ic2, m2, mA2, mj2, mc2, g2, gA2, gj2, gc2, a2, aA2, aj2, ac2⟩ := G
  simp only [Fi.v, Fv.mk.injEq] at hv
  obtain ⟨rfl, rfl, rfl, rfl, rfl, hm, hg, rfl⟩ := hv
  obtain rfl : pn = pn2 := hF.pl.symm.trans hG.pl
  obtain rfl : ij = ij2 := hF.il.symm.trans hG.il
  obtain rfl : aj = aj2 := hF.al.symm.trans hG.al
  have hml := congrArg List.length hm
  have hgl := congrArg List.length hg
  rw [List.length_map, List.length_map] at hml hgl
  obtain rfl : mj = mj2 := (hF.ml.symm.trans hml).trans hG.ml
  obtain rfl : gj = gj2 := (hF.gl.symm.trans hgl).trans hG.gl
  have hfi := hf.i
  have hfm := hf.m
  have hfg := hf.g
  have hfa := hf.a
  simp only at hfi hfm hfg hfa hp
  have FW := Lib.hid hf
  have HF := Lib.hid hF
  have HG := Lib.hid hG
  have HM := Lib.hid hm
  have HGG := Lib.hid hg
  clear hml hgl hF hG hm hg hf
  unfold Fi.val
  simp only
  go_enter Tryz.func12, Tryz.ntmps12
  go_wp2
  have hX := laid_old (o' := (.cells #[.slice pA2 pn pc2, .int .i64 f, .int .i64 t, .int .i64 s, .slice iA2 ij ic2, .slice mA2 mj mc2, .slice gA2 gj gc2, .slice aA2 aj ac2] 27)) (World.alloc_heap_new w (.cells #[.slice pA pn pc, .int .i64 f, .int .i64 t, .int .i64 s, .slice iA ij ic, .slice mA mj mc, .slice gA gj gc, .slice aA aj ac] 27))
  have hY := World.alloc_heap_new (w.alloc (.cells #[.slice pA pn pc, .int .i64 f, .int .i64 t, .int .i64 s, .slice iA ij ic, .slice mA mj mc, .slice gA gj gc, .slice aA aj ac] 27)) (.cells #[.slice pA2 pn pc2, .int .i64 f, .int .i64 t, .int .i64 s, .slice iA2 ij ic2, .slice mA2 mj mc2, .slice gA2 gj gc2, .slice aA2 aj ac2] 27)
  rw [show (w.alloc (.cells #[.slice pA pn pc, .int .i64 f, .int .i64 t, .int .i64 s, .slice iA ij ic, .slice mA mj mc, .slice gA gj gc, .slice aA aj ac] 27)).heap.size = w.heap.size + 1 by simp] at hY
  have hB2 := below_al (below_al (Below.refl _ w) (.cells #[.slice pA pn pc, .int .i64 f, .int .i64 t, .int .i64 s, .slice iA ij ic, .slice mA mj mc, .slice gA gj gc, .slice aA aj ac] 27)) (.cells #[.slice pA2 pn pc2, .int .i64 f, .int .i64 t, .int .i64 s, .slice iA2 ij ic2, .slice mA2 mj mc2, .slice gA2 gj gc2, .slice aA2 aj ac2] 27)
  generalize (w.alloc (.cells #[.slice pA pn pc, .int .i64 f, .int .i64 t, .int .i64 s, .slice iA ij ic, .slice mA mj mc, .slice gA gj gc, .slice aA aj ac] 27)).alloc (.cells #[.slice pA2 pn pc2, .int .i64 f, .int .i64 t, .int .i64 s, .slice iA2 ij ic2, .slice mA2 mj mc2, .slice gA2 gj gc2, .slice aA2 aj ac2] 27) = W2 at hX hY hB2 ⊢
  have HC : Hid (∀ w', Drn W2 w' → ((w'.cell? ⟨w.heap.size, 0, none⟩ = some (.slice pA pn pc) ∧ w'.cell? ⟨w.heap.size, 4, none⟩ = some (.slice iA ij ic) ∧ w'.cell? ⟨w.heap.size, 5, none⟩ = some (.slice mA mj mc) ∧ w'.cell? ⟨w.heap.size, 6, none⟩ = some (.slice gA gj gc) ∧ w'.cell? ⟨w.heap.size, 7, none⟩ = some (.slice aA aj ac)) ∧ (w'.cell? ⟨w.heap.size + 1, 0, none⟩ = some (.slice pA2 pn pc2) ∧ w'.cell? ⟨w.heap.size + 1, 4, none⟩ = some (.slice iA2 ij ic2) ∧ w'.cell? ⟨w.heap.size + 1, 5, none⟩ = some (.slice mA2 mj mc2) ∧ w'.cell? ⟨w.heap.size + 1, 6, none⟩ = some (.slice gA2 gj gc2) ∧ w'.cell? ⟨w.heap.size + 1, 7, none⟩ = some (.slice aA2 aj ac2)))) := Lib.hid (fun w' h => by
    obtain ⟨⟨x0, _, _, _, x4, x5, x6, x7⟩, _⟩ := eight_cellsF hX
    obtain ⟨⟨y0, _, _, _, y4, y5, y6, y7⟩, _⟩ := eight_cellsF hY
    exact ⟨⟨(h.cell _).trans x0, (h.cell _).trans x4, (h.cell _).trans x5, (h.cell _).trans x6, (h.cell _).trans x7⟩, (h.cell _).trans y0, (h.cell _).trans y4, (h.cell _).trans y5, (h.cell _).trans y6, (h.cell _).trans y7⟩)
  have KM : Hid (∀ w', Drn W2 w' → Calls Tryz.prog 40 #[.slice mA mj mc, .slice mA2 mj mc2] w' fun e w'' => e = .returned (.bool true) ∧ Drn W2 w'') := Lib.hid (fun w' h => (sameMs_yes w' HM.out (h.row (HF.out.mp.up hB2)) (h.row (HG.out.mp.up hB2)) (fun x hx => h.mb ((HF.out.mo x hx).up hB2)) (fun x hx => h.mb ((HG.out.mo x hx).up hB2)) HF.out.ml (show mj ≤ 100000 by omega) (fun x hx => by have := FW.out.ma x hx; omega)).mono fun e w'' k => ⟨k.1, h.more k.2⟩)
  have KG : Hid (∀ w', Drn W2 w' → Calls Tryz.prog 40 #[.slice gA gj gc, .slice gA2 gj gc2] w' fun e w'' => e = .returned (.bool true) ∧ Drn W2 w'') := Lib.hid (fun w' h => (sameMs_yes w' HGG.out (h.row (HF.out.gp.up hB2)) (h.row (HG.out.gp.up hB2)) (fun x hx => h.mb ((HF.out.go x hx).up hB2)) (fun x hx => h.mb ((HG.out.go x hx).up hB2)) HF.out.gl (show gj ≤ 100000 by omega) (fun x hx => by have := FW.out.ga x hx; omega)).mono fun e w'' k => ⟨k.1, h.more k.2⟩)
  have KA : Hid (∀ w', Drn W2 w' → Calls Tryz.prog 41 #[.slice aA aj ac, .slice aA2 aj ac2] w' fun e w'' => e = .returned (.bool true) ∧ Drn W2 w'') := Lib.hid (fun w' h => (sameAs_yes w' (h.row (HF.out.ap.up hB2)) (h.row (HG.out.ap.up hB2)) HF.out.al (show aj ≤ 100000 by omega)).mono fun e w'' k => ⟨k.1, h.more k.2⟩)
  have HB2 := Lib.hid hB2
  clear hX hY hB2
  go_loopw [5] (fun i wr => ∃ k : Nat, k ≤ pn ∧ i = .int .i64 k ∧ Drn W2 wr) (fun i _ => pn - (intOf i).toNat)
  case atStart => exact ⟨0, Nat.zero_le _, rfl, 0, rfl⟩
  case round =>
    obtain ⟨k, hkn, rfl, hq⟩ := hrel
    have HQ := Lib.hid hq
    obtain ⟨⟨x0, x4, x5, x6, x7⟩, y0, y4, y5, y6, y7⟩ := HC.out _ hq
    by_cases hlt : k < pn
    · obtain ⟨r, hr⟩ : ∃ r, p[k]? = some r := ⟨p[k]'(by rw [HF.out.pl]; exact hlt), List.getElem?_eq_getElem _⟩
      rcases HF.out.pp.up HB2.out with h0 | ⟨b1, o1, h1, hg1, hc1⟩
      · simp only at h0; rw [h0] at hr; cases hr
      · rcases HG.out.pp.up HB2.out with h0 | ⟨b2, o2, h2, hg2, hc2⟩
        · simp only at h0; rw [h0] at hr; cases hr
        · simp only at h1 h2
          subst h1
          subst h2
          obtain ⟨a0, a1, a2, a3, a4⟩ := hc1 k _ hr
          obtain ⟨d0, d1, d2, d3, d4⟩ := hc2 k _ hr
          replace a0 := (hq.cell _).trans a0
          replace a1 := (hq.cell _).trans a1
          replace a2 := (hq.cell _).trans a2
          replace a3 := (hq.cell _).trans a3
          replace a4 := (hq.cell _).trans a4
          replace d0 := (hq.cell _).trans d0
          replace d1 := (hq.cell _).trans d1
          replace d2 := (hq.cell _).trans d2
          replace d3 := (hq.cell _).trans d3
          replace d4 := (hq.cell _).trans d4
          have e1 := fun w => cn_neq r r w
          have e2 := cnQ_self r
          have hk0 : (0 : Int) ≤ (k : Int) := by omega
          have hk1 : (k : Int) < (pn : Int) := by omega
          clear hc1 hc2 hr hq
          go_wp2
          go_quiet (fail)
          go_wp2
          go_roundw
          case rel => exact ⟨k + 1, by omega, by go_num, HQ.out.more ⟨_, rfl⟩⟩
          case measure => simp [intOf]; omega
    · obtain rfl : k = pn := by omega
      clear hq
      go_wp2
      go_loopw [6] (fun i wr => ∃ k : Nat, k ≤ ij ∧ i = .int .i64 k ∧ Drn W2 wr) (fun i _ => ij - (intOf i).toNat)
      case atStart => exact ⟨0, Nat.zero_le _, rfl, HQ.out⟩
      case round =>
        obtain ⟨k', hkn', rfl, hq⟩ := hrel
        replace HQ := Lib.hid hq
        obtain ⟨⟨x0, x4, x5, x6, x7⟩, y0, y4, y5, y6, y7⟩ := HC.out _ hq
        by_cases hlt : k' < ij
        · obtain ⟨r, hr⟩ : ∃ r, i[k']? = some r := ⟨i[k']'(by rw [HF.out.il]; exact hlt), List.getElem?_eq_getElem _⟩
          obtain ⟨b1, o1, h1, hg1, hc1⟩ := (hq.row (HF.out.ip.up HB2.out)).get hr
          obtain ⟨b2, o2, h2, hg2, hc2⟩ := (hq.row (HG.out.ip.up HB2.out)).get hr
          simp only at h1 h2
          subst h1
          subst h2
          have a0 := hc1 0 _ rfl
          have d0 := hc2 0 _ rfl
          rw [Nat.mul_one, Nat.add_zero] at a0 d0
          have hk0 : (0 : Int) ≤ (k' : Int) := by omega
          have hk1 : (k' : Int) < (ij : Int) := by omega
          clear hc1 hc2 hr hq
          go_wp2
          go_quiet (fail)
          go_wp2
          go_roundw
          case rel => exact ⟨k' + 1, by omega, by go_num, HQ.out.more ⟨_, rfl⟩⟩
          case measure => simp [intOf]; omega
        · obtain rfl : k' = ij := by omega
          clear hq
          go_wp2_with (first | (go_at_call 40; (with_reducible refine (KM.out _ HQ.out).mono ?_); rintro e w5 ⟨rfl, hq5⟩; replace HQ := Lib.hid hq5; obtain ⟨⟨x0, x4, x5, x6, x7⟩, y0, y4, y5, y6, y7⟩ := HC.out _ hq5; clear hq5) | (go_at_call 40; (with_reducible refine (KG.out _ HQ.out).mono ?_); rintro e w6 ⟨rfl, hq5⟩; replace HQ := Lib.hid hq5; obtain ⟨⟨x0, x4, x5, x6, x7⟩, y0, y4, y5, y6, y7⟩ := HC.out _ hq5; clear hq5) | (go_at_call 41; (with_reducible refine (KA.out _ HQ.out).mono ?_); rintro e w7 ⟨rfl, hq5⟩; replace HQ := Lib.hid hq5; clear hq5))
          go_ret
          exact ⟨rfl, HQ.out.below HB2.out⟩

end Go.Proofs.YthfegbhbokhlkaaGreatDoor
