/- Layer 19: the law on edges. -/
import Derived.Test.YtpghkdmljanncaaFk
import Derived.BigQuiet
namespace Go.Proofs.Ytpghkdmljanncaa
open Go.ChangeShapes Go.WideShapes Go.ChangeAt Go.RowKit Go.PlainAid
set_option linter.unusedSimpArgs false
set_option linter.unusedVariables false

theorem ints19_b {w : World} {A A2 : Option Addr} {n c c2 : Nat} {L : List Int} (h1 : Row w w.heap.size A L) (h2 : Row w w.heap.size A2 L) (hn : L.length = n) (hb : n ≤ 9223372036854775807) :
    Calls Try.prog 32 #[.slice A n c, .slice A2 n c2] w fun e w' => e = .returned (.bool true) ∧ Below w.heap.size w w' :=
  (ints19_yes h1 h2 hn hb).mono fun e w' ⟨he, q, hq⟩ => ⟨he, by rw [hq]; exact below_dr (Below.refl _ _) q⟩
theorem scs_r (c : Cd) (x : Int) (w : World) (hok : c.ok w) : Calls Try.prog 33 #[(Value.agg #[Value.int IntKind.i64 (Cd.st c), Value.int IntKind.i64 (Cd.lo c), Value.slice (Cd.iA c) (Cd.n c) (Cd.ic c), Value.slice (Cd.hA c) (Cd.hn c) (Cd.hc c), Value.slice (Cd.mA c) (Cd.mn c) (Cd.mc c), Value.slice (Cd.lA c) (Cd.ln c) (Cd.lc c)]), .int .i64 x] w (IntsRet w (scL c x)) := (scs_any c x w hok).mono fun _ _ h => h.ret
theorem hds_r (c : Cd) (x : Int) (w : World) (hok : c.ok w) : Calls Try.prog 35 #[(Value.agg #[Value.int IntKind.i64 (Cd.st c), Value.int IntKind.i64 (Cd.lo c), Value.slice (Cd.iA c) (Cd.n c) (Cd.ic c), Value.slice (Cd.hA c) (Cd.hn c) (Cd.hc c), Value.slice (Cd.mA c) (Cd.mn c) (Cd.mc c), Value.slice (Cd.lA c) (Cd.ln c) (Cd.lc c)]), .int .i64 x] w (IntsRet w (hdL c x)) := (hds_any c x w hok).mono fun _ _ h => h.ret
theorem rsc_r (c : Cd) (x : Int) (w : World) (hok : c.ok w) (h9 : ∀ i ∈ c.is, i.tn ≤ 900000) : Calls Try.prog 34 #[(Value.agg #[Value.int IntKind.i64 (Cd.st c), Value.int IntKind.i64 (Cd.lo c), Value.slice (Cd.iA c) (Cd.n c) (Cd.ic c), Value.slice (Cd.hA c) (Cd.hn c) (Cd.hc c), Value.slice (Cd.mA c) (Cd.mn c) (Cd.mc c), Value.slice (Cd.lA c) (Cd.ln c) (Cd.lc c)]), .int .i64 x] w (IntsRet w (scL c x)) := (rsc_any c x w hok h9).mono fun _ _ h => h.ret
theorem rhd_r (c : Cd) (x : Int) (w : World) (hok : c.ok w) : Calls Try.prog 36 #[(Value.agg #[Value.int IntKind.i64 (Cd.st c), Value.int IntKind.i64 (Cd.lo c), Value.slice (Cd.iA c) (Cd.n c) (Cd.ic c), Value.slice (Cd.hA c) (Cd.hn c) (Cd.hc c), Value.slice (Cd.mA c) (Cd.mn c) (Cd.mc c), Value.slice (Cd.lA c) (Cd.ln c) (Cd.lc c)]), .int .i64 x] w (IntsRet w (hdL c x)) := (rhd_any c x w hok).mono fun _ _ h => h.ret
set_option maxRecDepth 100000 in
set_option maxHeartbeats 4000000 in
theorem fedges_yes (c : Cd) (x : Int) (w : World) (hok : c.raw w) (hf : c.few) : Calls Try.prog 10 #[(Value.agg #[Value.int IntKind.i64 (Cd.st c), Value.int IntKind.i64 (Cd.lo c), Value.slice (Cd.iA c) (Cd.n c) (Cd.ic c), Value.slice (Cd.hA c) (Cd.hn c) (Cd.hc c), Value.slice (Cd.mA c) (Cd.mn c) (Cd.mc c), Value.slice (Cd.lA c) (Cd.ln c) (Cd.lc c)]), .int .i64 x] w fun e w' => e = .returned (.bool true) ∧ Below w.heap.size w w' := by
  have hB : Below w.heap.size w w := Below.refl _ _
  have OK := Lib.hid hok
  clear hok
  have OKK := Lib.hid (OK.out.ok hf)
  have HF := Lib.hid hf
  have hsl := scL_len OKK.out x
  have hsb : (scL c x).length ≤ 9223372036854775807 := by omega
  have hhl := hdL_len c x
  have hhb : (hdL c x).length ≤ 9223372036854775807 := by have := hf.hn; omega
  have H9 := Lib.hid (fun i (hi : i ∈ c.is) => show i.tn ≤ 900000 by have := hf.tn i hi; omega)
  have HSB := Lib.hid hsb
  have HHB := Lib.hid hhb
  clear hf hsl hsb hhl hhb
  go_enter Try.func10, Try.ntmps10
  go_upto_region 1 with fail
  have R := World.alloc_heap_new w (.cells #[.int .i64 c.st, .int .i64 c.lo, .slice c.iA c.n c.ic, .slice c.hA c.hn c.hc, .slice c.mA c.mn c.mc, .slice c.lA c.ln c.lc] 50)
  replace hB := below_al hB (.cells #[.int .i64 c.st, .int .i64 c.lo, .slice c.iA c.n c.ic, .slice c.hA c.hn c.hc, .slice c.mA c.mn c.mc, .slice c.lA c.ln c.lc] 50)
  generalize w.alloc (.cells #[.int .i64 c.st, .int .i64 c.lo, .slice c.iA c.n c.ic, .slice c.hA c.hn c.hc, .slice c.mA c.mn c.mc, .slice c.lA c.ln c.lc] 50) = W1 at R hB ⊢
  obtain ⟨r0, r1, r2, r3, r4, r5⟩ := six_cells R
  have y1 := lt_heap R
  replace R := Lib.hid R
  go_region_held3 (fun w' => w'.cell? ⟨w.heap.size, 0, none⟩ = some (.int .i64 c.st) ∧ w'.cell? ⟨w.heap.size, 1, none⟩ = some (.int .i64 c.lo) ∧ w'.cell? ⟨w.heap.size, 2, none⟩ = some (.slice c.iA c.n c.ic) ∧ w'.cell? ⟨w.heap.size, 3, none⟩ = some (.slice c.hA c.hn c.hc) ∧ w'.cell? ⟨w.heap.size, 4, none⟩ = some (.slice c.mA c.mn c.mc) ∧ w'.cell? ⟨w.heap.size, 5, none⟩ = some (.slice c.lA c.ln c.lc) ∧ w.heap.size < w'.heap.size ∧ Below w.heap.size w w') (((try go_split_ands); (repeat' apply And.intro) <;> (first | assumption | (first | exact below_on (w := w) (by assumption) hq | exact Below.drew (by assumption) | assumption) | exact (Below.cell hq (by first | omega | (simp; omega))).trans (by assumption) | (have := hq.size; omega) | (simp; omega) | go_keep)))
    (first | (go_at_call 30; (with_reducible refine (few_yes c _ (OK.out.up (by first | assumption | (go_split_ands; assumption))) HF.out).mono ?_); rintro e w2 ⟨rfl, hq⟩) | (go_at_call 31; (with_reducible refine (awake19_any _).mono ?_); rintro e w2 ⟨rfl, hq⟩) | (go_at_call 33; (with_reducible refine (scs_r c x _ (OKK.out.up (by first | assumption | (go_split_ands; assumption)))).mono ?_); rintro e w2 ⟨A1, c1, rfl, _, _, _, hr1, hq⟩; have HR1 := Lib.hid hr1; clear hr1) | (go_at_call 34; (with_reducible refine (rsc_r c x _ (OKK.out.up (by first | assumption | (go_split_ands; assumption))) H9.out).mono ?_); rintro e w2 ⟨A2, c2, rfl, _, _, _, hr2, hq⟩; (try replace HR1 := Lib.hid (HR1.out.up hq)); have HR2 := Lib.hid hr2; clear hr2) | (go_at_call 35; (with_reducible refine (hds_r c x _ (OKK.out.up (by first | assumption | (go_split_ands; assumption)))).mono ?_); rintro e w2 ⟨A3, c3, rfl, _, _, _, hr3, hq⟩; have HR3 := Lib.hid hr3; clear hr3) | (go_at_call 36; (with_reducible refine (rhd_r c x _ (OKK.out.up (by first | assumption | (go_split_ands; assumption)))).mono ?_); rintro e w2 ⟨A4, c4, rfl, _, _, _, hr4, hq⟩; (try replace HR3 := Lib.hid (HR3.out.up hq)); have HR4 := Lib.hid hr4; clear hr4) | (go_at_call 32; (with_reducible refine (ints19_b HR3.out HR4.out rfl HHB.out).mono ?_); rintro e w2 ⟨rfl, hq⟩) | (go_at_call 32; (with_reducible refine (ints19_b HR1.out HR2.out rfl HSB.out).mono ?_); rintro e w2 ⟨rfl, hq⟩))
  all_goals (go_split_ands; go_wp2; go_ret; exact ⟨rfl, by assumption⟩)

end Go.Proofs.Ytpghkdmljanncaa
