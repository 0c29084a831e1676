/- Layer 17: FromType, in the package and in its reference. -/
import Derived.Laws.Rows
import Derived.Test.YthifmcnemeiphaaDoorVt
namespace Go.Proofs.YthifmcnemeiphaaDoor
open Go.ChangeShapes Go.WideShapes Go.ChangeAt Go.RowKit Go.PlainAid
set_option linter.unusedSimpArgs false
set_option linter.unusedVariables false

theorem two_boxes {w w1 : World} {o1 o2 : Obj} (h : Below ((w.alloc o1).alloc o2).heap.size ((w.alloc o1).alloc o2) w1) : w1.heap[w.heap.size]? = some o1 ∧ w1.heap[w.heap.size + 1]? = some o2 ∧ Below w.heap.size w w1 := by
  have e1 : (w.alloc o1).heap.size = w.heap.size + 1 := by simp
  have e2 : ((w.alloc o1).alloc o2).heap.size = w.heap.size + 2 := by simp
  refine ⟨?_, ?_, below_on (below_al (below_al (Below.refl _ w) o1) o2) h⟩
  · rw [h.block _ (by omega)]; show ((w.heap.push o1).push o2)[w.heap.size]? = some o1; rw [Array.getElem?_push, if_neg (by simp), Array.getElem?_push, if_pos rfl]
  · rw [h.block _ (by omega), ← e1]; exact heap_alloc_new _ o2
theorem six_cells {W : World} {B : Nat} {a b c d e f : Value} {t : TypeId} (hh : W.heap[B]? = some (.cells #[a, b, c, d, e, f] t)) :
    W.cell? ⟨B, 0, none⟩ = some a ∧ W.cell? ⟨B, 1, none⟩ = some b ∧ W.cell? ⟨B, 2, none⟩ = some c ∧ W.cell? ⟨B, 3, none⟩ = some d ∧ W.cell? ⟨B, 4, none⟩ = some e ∧ W.cell? ⟨B, 5, none⟩ = some f ∧ ∀ j, W.frozen? ⟨B, j, none⟩ = false := by
  refine ⟨?_, ?_, ?_, ?_, ?_, ?_, ?_⟩ <;> simp [World.cell?, World.frozen?, hh]
theorem set_six {w : World} {B : Nat} {t : TypeId} {x0 x1 x2 x3 x4 x5 a b c d e f : Value} (hh : w.heap[B]? = some (.cells #[x0, x1, x2, x3, x4, x5] t)) :
    ((((((w.setCell ⟨B, 0, none⟩ a).setCell ⟨B, 1, none⟩ b).setCell ⟨B, 2, none⟩ c).setCell ⟨B, 3, none⟩ d).setCell ⟨B, 4, none⟩ e).setCell ⟨B, 5, none⟩ f).heap[B]? = some (.cells #[a, b, c, d, e, f] t) := by
  have h0 := heap_setCell_same w B 0 _ _ a hh
  generalize w.setCell ⟨B, 0, none⟩ a = w0 at h0 ⊢
  have h1 := heap_setCell_same w0 B 1 _ _ b h0
  generalize w0.setCell ⟨B, 1, none⟩ b = w1 at h1 ⊢
  have h2 := heap_setCell_same w1 B 2 _ _ c h1
  generalize w1.setCell ⟨B, 2, none⟩ c = w2 at h2 ⊢
  have h3 := heap_setCell_same w2 B 3 _ _ d h2
  generalize w2.setCell ⟨B, 3, none⟩ d = w3 at h3 ⊢
  have h4 := heap_setCell_same w3 B 4 _ _ e h3
  generalize w3.setCell ⟨B, 4, none⟩ e = w4 at h4 ⊢
  exact heap_setCell_same w4 B 5 _ _ f h4
theorem vt_size : (Tryd.prog.info? 43).map (·.size) = some 6 := by kernel_rfl
theorem vt_under : ∃ fs, Tryd.prog.underlying 43 = some (.struct fs) := ⟨_, Tryd.underlying43⟩
theorem vt_ret {fn : Func} (hf : fn.results = #[.cell 2 43]) {a : Act} {w : World} {B : Nat} {x0 x1 x2 x3 x4 x5 : Value} (ht : a.tmps.getD 2 undef = .pointer (some ⟨B, 0, none⟩)) (hg : w.heap[B]? = some (.cells #[x0, x1, x2, x3, x4, x5] 43)) :
    (results fn a.tmps).run Tryd.prog w = .ok (.agg #[x0, x1, x2, x3, x4, x5]) w := by
  obtain ⟨fs, hu⟩ := vt_under
  exact results_cell_row hf a.tmps w B _ _ (0, 0) _ ht hg hu rfl vt_size
def ftV (d b : Int) (s : ByteArray) : Value :=
  if kiV d b s = 1 then .agg #[.int .i64 1, .int .i64 0, .int .i64 0, .int .u8 0, .string ⟨#[]⟩, .int .i64 0]
  else if kiV d b s = 2 then .agg #[.int .i64 2, .int .i64 0, .int .i64 0, .int .u8 0, .string ⟨#[]⟩, .int .i64 0]
  else if kiV d b s = 3 then .agg #[.int .i64 4, .int .i64 0, .int .i64 d, .int .u8 b, .string s, .int .i64 0]
  else .agg #[.int .i64 0, .int .i64 0, .int .i64 0, .int .u8 0, .string ⟨#[]⟩, .int .i64 0]
theorem ki_cases (d b : Int) (s : ByteArray) : kiV d b s = 0 ∨ kiV d b s = 1 ∨ kiV d b s = 2 ∨ kiV d b s = 3 := by unfold kiV; grind
set_option maxHeartbeats 2000000 in
theorem from_any (d b : Int) (s : ByteArray) (w : World) :
    Calls Tryd.prog 35 #[.agg #[.int .i64 d, .int .u8 b, .string s]] w fun e w' => e = .returned (ftV d b s) ∧ Below w.heap.size w w' := by
  have hB : Below w.heap.size w w := Below.refl _ _
  have HK := Lib.hid (fun (W : World) => kind_any d b s W)
  have hc := ki_cases d b s
  unfold ftV
  obtain ⟨kk, hkk⟩ : ∃ kk, kiV d b s = kk := ⟨_, rfl⟩
  rw [hkk] at HK hc ⊢
  clear hkk
  rcases hc with rfl | rfl | rfl | rfl
  all_goals
    go_enter Tryd.func35, Tryd.ntmps35
    go_wp2_with (go_at_call 69; refine (HK.out _).mono ?_; rintro e w1 ⟨rfl, hb1⟩; obtain ⟨k0, k1, hb⟩ := two_boxes hb1; obtain ⟨c0, c1, c2, f0, f1, f2⟩ := three_cells k0; obtain ⟨g0, g1, g2, g3, g4, g5, gf⟩ := six_cells k1; replace hB := hb; have hz := hb1.size; clear hb1)
    refine bodyPost_ret (vt_ret rfl rfl (set_six k1)) rfl ⟨by simp, ?_⟩
    exact below_st (below_st (below_st (below_st (below_st (below_st hB (by simp) _) (by simp) _) (by simp) _) (by simp) _) (by simp) _) (by simp) _
set_option maxHeartbeats 2000000 in
theorem rfrom_any (d b : Int) (s : ByteArray) (hs : s.size ≤ 9223372036854775807) (w : World) :
    Calls Tryd.prog 36 #[.agg #[.int .i64 d, .int .u8 b, .string s]] w fun e w' => e = .returned (ftV d b s) ∧ Below w.heap.size w w' := by
  have hB : Below w.heap.size w w := Below.refl _ _
  have HK := Lib.hid (fun (W : World) => rkind_any d b s hs W)
  have hc := ki_cases d b s
  unfold ftV
  obtain ⟨kk, hkk⟩ : ∃ kk, kiV d b s = kk := ⟨_, rfl⟩
  rw [hkk] at HK hc ⊢
  clear hkk
  rcases hc with rfl | rfl | rfl | rfl
  all_goals
    go_enter Tryd.func36, Tryd.ntmps36
    go_wp2_with (go_at_call 70; refine (HK.out _).mono ?_; rintro e w1 ⟨rfl, hb1⟩; obtain ⟨k0, k1, hb⟩ := two_boxes hb1; obtain ⟨c0, c1, c2, f0, f1, f2⟩ := three_cells k0; obtain ⟨g0, g1, g2, g3, g4, g5, gf⟩ := six_cells k1; replace hB := hb; have hz := hb1.size; clear hb1)
    refine bodyPost_ret (vt_ret rfl rfl (set_six k1)) rfl ⟨by simp, ?_⟩
    exact below_st (below_st (below_st (below_st (below_st (below_st hB (by simp) _) (by simp) _) (by simp) _) (by simp) _) (by simp) _) (by simp) _
end Go.Proofs.YthifmcnemeiphaaDoor
