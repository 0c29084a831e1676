/- Layer 4: DescCanonical, DescFormatSignature, the walks. -/
import Derived.Test.YtfafmanjgillcaaDoorDescCanon
import Derived.Test.YtfafmanjgillcaaDoorDescLawPs
namespace Go.Proofs.YtfafmanjgillcaaDoor
open Go.ChangeShapes Go.WideShapes Go.ChangeAt Go.RowKit Go.PlainAid
set_option linter.unusedSimpArgs false
set_option linter.unusedVariables false

theorem parse_yes {s : ByteArray} (hs : s.size ≤ 3000) (h : paE s = 0) (w : World) : Calls Tryd.prog 42 #[.string s] w fun e w' => e = .returned (.tuple #[.agg #[.int .i64 (paD s), .int .u8 (paB s), .string (paS s)], .int .i64 0]) ∧ Below w.heap.size w w' := by
  have g := parse_any s (by omega) w
  rw [h] at g; exact g
theorem fmt_pa {s : ByteArray} (h : paE s = 0) (w : World) : Calls Tryd.prog 30 #[.agg #[.int .i64 (paD s), .int .u8 (paB s), .string (paS s)]] w fun e w' => e = .returned (.tuple #[.string s, .int .i64 0]) ∧ Below w.heap.size w w' := by
  obtain ⟨hv, ht⟩ := pa_text h
  have g := fmt_any (paD s) (paB s) (paS s) (by have := valid_name hv; omega) w
  rw [(fm_ok hv).1, (fm_ok hv).2, ht] at g; exact g
theorem pcc_yes {s : ByteArray} (hs : s.size ≤ 3000) (h : pcE s = 0) (w : World) : Calls Tryd.prog 44 #[.string s] w fun e w' => e = .returned (.tuple #[.agg #[.int .i64 (pcD s), .int .u8 (pcB s), .string (pcS s)], .int .i64 0]) ∧ Below w.heap.size w w' := by
  have g := pcc_any s (by omega) w
  rw [h] at g; exact g
theorem fcc_pc {s : ByteArray} (h : pcE s = 0) (w : World) : Calls Tryd.prog 36 #[.agg #[.int .i64 (pcD s), .int .u8 (pcB s), .string (pcS s)]] w fun e w' => e = .returned (.tuple #[.string s, .int .i64 0]) ∧ Below w.heap.size w w' := by
  obtain ⟨h1, h2, h3⟩ := pc_text h
  have g := fcc_any (pcD s) (pcB s) (pcS s) h3 w
  rw [h1, h2] at g; exact g
theorem fsig_sg {s : ByteArray} {ps : List Ty} {d b : Int} {m : ByteArray} (h : sgOf s.data.toList = (ps, (d, b, m), 0)) (A : Option Addr) (c : Nat) (w : World) (hty : Tys w w.heap.size A ps) :
    Calls Tryd.prog 46 #[.agg #[.slice A ps.length c, .int .i64 d, .int .u8 b, .string m]] w fun e w' => e = .returned (.tuple #[.string s, .int .i64 0]) ∧ Below w.heap.size w w' := by
  obtain ⟨h1, h2⟩ := sg_text h
  have g := fsig_any A ps.length c ps d b m w rfl hty
  rw [h1, h2] at g; exact g

set_option maxRecDepth 100000 in
set_option maxHeartbeats 2000000 in
theorem canon_111 (s : ByteArray) (hs : s.size ≤ 3000) (ps : List Ty) (d b er : Int) (m : ByteArray) (hx : sgOf s.data.toList = (ps, (d, b, m), er)) (hp : paE s = 0) (hg : er = 0) (hq : pcE s = 0) (w : World) : Calls Tryd.prog 13 #[.string s] w fun e w' => e = .returned (.bool true) ∧ Below w.heap.size w w' := by
  subst hg
  replace hp := Lib.hid hp
  replace hq := Lib.hid hq
  have hsg := fun w => psig_all s (by omega) w
  rw [hx] at hsg
  replace hsg := Lib.hid hsg
  replace hx := Lib.hid hx
  go_enter Tryd.func13, Tryd.ntmps13
  go_wp2_with fail
  refine (parse_yes hs hp.out _).mono ?_
  rintro e w1 ⟨rfl, hb1⟩
  have z1 := hb1.size
  have hB1 : Below w.heap.size w w1 := below_on (w := w) ((Below.refl w.heap.size w)) hb1
  clear hb1
  go_wp2_with fail
  refine (fmt_pa hp.out _).mono ?_
  rintro e w2 ⟨rfl, hb2⟩
  have z2 := hb2.size
  simp only [World.size_alloc] at z2
  have hB2 : Below w.heap.size w w2 := below_on (w := w) ((below_al hB1 _)) hb2
  have K_a : Hid (w2.heap[w1.heap.size]? = some (.cells #[.int .i64 (paD s), .int .u8 (paB s), .string (paS s)] 30)) := Lib.hid ((hb2.block (w1.heap.size) (by (try simp only [World.size_alloc]); omega)).trans ((by have h := World.alloc_heap_new w1 (.cells #[.int .i64 (paD s), .int .u8 (paB s), .string (paS s)] 30); (try simp only [World.size_alloc] at h); exact h)))
  clear hb2
  have lt_a2 : w1.heap.size < w2.heap.size := lt_of_heap K_a.out
  obtain ⟨a_02, a_12, a_22, fa_02, fa_12, fa_22⟩ := three_cells K_a.out
  go_wp2_with fail
  refine (hsg.out _).mono ?_
  rintro e w3 ⟨A, c, he, ty3, hc, hb3⟩
  subst he
  clear hc
  have z3 := hb3.size
  have hB3 : Below w.heap.size w w3 := below_on (w := w) (hB2) hb3
  replace K_a := Lib.hid ((hb3.block w1.heap.size (by (try simp only [World.size_alloc]); have := lt_of_heap K_a.out; omega)).trans (K_a.out))
  clear hb3
  have lt_a3 : w1.heap.size < w3.heap.size := lt_of_heap K_a.out
  obtain ⟨a_03, a_13, a_23, fa_03, fa_13, fa_23⟩ := three_cells K_a.out
  have T := Lib.hid (tys_al ty3 (.cells #[.slice A ps.length c, .int .i64 d, .int .u8 b, .string m] 41))
  clear ty3
  go_wp2_with fail
  refine (fsig_sg hx.out A c _ T.out).mono ?_
  rintro e w4 ⟨rfl, hb4⟩
  have z4 := hb4.size
  simp only [World.size_alloc] at z4
  have hB4 : Below w.heap.size w w4 := below_on (w := w) ((below_al hB3 _)) hb4
  replace K_a := Lib.hid ((hb4.block w1.heap.size (by (try simp only [World.size_alloc]); have := lt_of_heap K_a.out; omega)).trans (((Below.heap_alloc _ _ _ (by (try simp only [World.size_alloc]); have := lt_of_heap K_a.out; omega)).trans (K_a.out))))
  have K_g : Hid (w4.heap[w3.heap.size]? = some (.cells #[.slice A ps.length c, .int .i64 d, .int .u8 b, .string m] 41)) := Lib.hid ((hb4.block (w3.heap.size) (by (try simp only [World.size_alloc]); omega)).trans ((by have h := World.alloc_heap_new w3 (.cells #[.slice A ps.length c, .int .i64 d, .int .u8 b, .string m] 41); (try simp only [World.size_alloc] at h); exact h)))
  clear hb4
  have lt_a4 : w1.heap.size < w4.heap.size := lt_of_heap K_a.out
  obtain ⟨a_04, a_14, a_24, fa_04, fa_14, fa_24⟩ := three_cells K_a.out
  have lt_g4 : w3.heap.size < w4.heap.size := lt_of_heap K_g.out
  obtain ⟨⟨g_04, g_14, g_24, g_34⟩, fg_04, fg_14, fg_24, fg_34⟩ := four_cells K_g.out
  go_wp2_with fail
  refine (pcc_yes hs hq.out _).mono ?_
  rintro e w5 ⟨rfl, hb5⟩
  have z5 := hb5.size
  have hB5 : Below w.heap.size w w5 := below_on (w := w) (hB4) hb5
  replace K_a := Lib.hid ((hb5.block w1.heap.size (by (try simp only [World.size_alloc]); have := lt_of_heap K_a.out; omega)).trans (K_a.out))
  replace K_g := Lib.hid ((hb5.block w3.heap.size (by (try simp only [World.size_alloc]); have := lt_of_heap K_g.out; omega)).trans (K_g.out))
  clear hb5
  have lt_a5 : w1.heap.size < w5.heap.size := lt_of_heap K_a.out
  obtain ⟨a_05, a_15, a_25, fa_05, fa_15, fa_25⟩ := three_cells K_a.out
  have lt_g5 : w3.heap.size < w5.heap.size := lt_of_heap K_g.out
  obtain ⟨⟨g_05, g_15, g_25, g_35⟩, fg_05, fg_15, fg_25, fg_35⟩ := four_cells K_g.out
  go_wp2_with fail
  refine (fcc_pc hq.out _).mono ?_
  rintro e w6 ⟨rfl, hb6⟩
  have z6 := hb6.size
  simp only [World.size_alloc] at z6
  have hB6 : Below w.heap.size w w6 := below_on (w := w) ((below_al hB5 _)) hb6
  replace K_a := Lib.hid ((hb6.block w1.heap.size (by (try simp only [World.size_alloc]); have := lt_of_heap K_a.out; omega)).trans (((Below.heap_alloc _ _ _ (by (try simp only [World.size_alloc]); have := lt_of_heap K_a.out; omega)).trans (K_a.out))))
  replace K_g := Lib.hid ((hb6.block w3.heap.size (by (try simp only [World.size_alloc]); have := lt_of_heap K_g.out; omega)).trans (((Below.heap_alloc _ _ _ (by (try simp only [World.size_alloc]); have := lt_of_heap K_g.out; omega)).trans (K_g.out))))
  have K_x : Hid (w6.heap[w5.heap.size]? = some (.cells #[.int .i64 (pcD s), .int .u8 (pcB s), .string (pcS s)] 30)) := Lib.hid ((hb6.block (w5.heap.size) (by (try simp only [World.size_alloc]); omega)).trans ((by have h := World.alloc_heap_new w5 (.cells #[.int .i64 (pcD s), .int .u8 (pcB s), .string (pcS s)] 30); (try simp only [World.size_alloc] at h); exact h)))
  clear hb6
  have lt_a6 : w1.heap.size < w6.heap.size := lt_of_heap K_a.out
  obtain ⟨a_06, a_16, a_26, fa_06, fa_16, fa_26⟩ := three_cells K_a.out
  have lt_g6 : w3.heap.size < w6.heap.size := lt_of_heap K_g.out
  obtain ⟨⟨g_06, g_16, g_26, g_36⟩, fg_06, fg_16, fg_26, fg_36⟩ := four_cells K_g.out
  have lt_x6 : w5.heap.size < w6.heap.size := lt_of_heap K_x.out
  obtain ⟨x_06, x_16, x_26, fx_06, fx_16, fx_26⟩ := three_cells K_x.out
  go_wp2_with fail
  refine (works_any _).mono ?_
  rintro e w7 ⟨rfl, hb7⟩
  have z7 := hb7.size
  have hB7 : Below w.heap.size w w7 := below_on (w := w) (hB6) hb7
  replace K_a := Lib.hid ((hb7.block w1.heap.size (by (try simp only [World.size_alloc]); have := lt_of_heap K_a.out; omega)).trans (K_a.out))
  replace K_g := Lib.hid ((hb7.block w3.heap.size (by (try simp only [World.size_alloc]); have := lt_of_heap K_g.out; omega)).trans (K_g.out))
  replace K_x := Lib.hid ((hb7.block w5.heap.size (by (try simp only [World.size_alloc]); have := lt_of_heap K_x.out; omega)).trans (K_x.out))
  clear hb7
  have lt_a7 : w1.heap.size < w7.heap.size := lt_of_heap K_a.out
  obtain ⟨a_07, a_17, a_27, fa_07, fa_17, fa_27⟩ := three_cells K_a.out
  have lt_g7 : w3.heap.size < w7.heap.size := lt_of_heap K_g.out
  obtain ⟨⟨g_07, g_17, g_27, g_37⟩, fg_07, fg_17, fg_27, fg_37⟩ := four_cells K_g.out
  have lt_x7 : w5.heap.size < w7.heap.size := lt_of_heap K_x.out
  obtain ⟨x_07, x_17, x_27, fx_07, fx_17, fx_27⟩ := three_cells K_x.out
  go_wp2
  go_ret
  exact ⟨rfl, hB7⟩

set_option maxRecDepth 100000 in
set_option maxHeartbeats 2000000 in
theorem canon_110 (s : ByteArray) (hs : s.size ≤ 3000) (ps : List Ty) (d b er : Int) (m : ByteArray) (hx : sgOf s.data.toList = (ps, (d, b, m), er)) (hp : paE s = 0) (hg : er = 0) (hq : ¬ pcE s = 0) (w : World) : Calls Tryd.prog 13 #[.string s] w fun e w' => e = .returned (.bool true) ∧ Below w.heap.size w w' := by
  subst hg
  have hq' := beqF hq
  replace hp := Lib.hid hp
  replace hq := Lib.hid hq
  have hsg := fun w => psig_all s (by omega) w
  rw [hx] at hsg
  replace hsg := Lib.hid hsg
  replace hx := Lib.hid hx
  go_enter Tryd.func13, Tryd.ntmps13
  go_wp2_with fail
  refine (parse_yes hs hp.out _).mono ?_
  rintro e w1 ⟨rfl, hb1⟩
  have z1 := hb1.size
  have hB1 : Below w.heap.size w w1 := below_on (w := w) ((Below.refl w.heap.size w)) hb1
  clear hb1
  go_wp2_with fail
  refine (fmt_pa hp.out _).mono ?_
  rintro e w2 ⟨rfl, hb2⟩
  have z2 := hb2.size
  simp only [World.size_alloc] at z2
  have hB2 : Below w.heap.size w w2 := below_on (w := w) ((below_al hB1 _)) hb2
  have K_a : Hid (w2.heap[w1.heap.size]? = some (.cells #[.int .i64 (paD s), .int .u8 (paB s), .string (paS s)] 30)) := Lib.hid ((hb2.block (w1.heap.size) (by (try simp only [World.size_alloc]); omega)).trans ((by have h := World.alloc_heap_new w1 (.cells #[.int .i64 (paD s), .int .u8 (paB s), .string (paS s)] 30); (try simp only [World.size_alloc] at h); exact h)))
  clear hb2
  have lt_a2 : w1.heap.size < w2.heap.size := lt_of_heap K_a.out
  obtain ⟨a_02, a_12, a_22, fa_02, fa_12, fa_22⟩ := three_cells K_a.out
  go_wp2_with fail
  refine (hsg.out _).mono ?_
  rintro e w3 ⟨A, c, he, ty3, hc, hb3⟩
  subst he
  clear hc
  have z3 := hb3.size
  have hB3 : Below w.heap.size w w3 := below_on (w := w) (hB2) hb3
  replace K_a := Lib.hid ((hb3.block w1.heap.size (by (try simp only [World.size_alloc]); have := lt_of_heap K_a.out; omega)).trans (K_a.out))
  clear hb3
  have lt_a3 : w1.heap.size < w3.heap.size := lt_of_heap K_a.out
  obtain ⟨a_03, a_13, a_23, fa_03, fa_13, fa_23⟩ := three_cells K_a.out
  have T := Lib.hid (tys_al ty3 (.cells #[.slice A ps.length c, .int .i64 d, .int .u8 b, .string m] 41))
  clear ty3
  go_wp2_with fail
  refine (fsig_sg hx.out A c _ T.out).mono ?_
  rintro e w4 ⟨rfl, hb4⟩
  have z4 := hb4.size
  simp only [World.size_alloc] at z4
  have hB4 : Below w.heap.size w w4 := below_on (w := w) ((below_al hB3 _)) hb4
  replace K_a := Lib.hid ((hb4.block w1.heap.size (by (try simp only [World.size_alloc]); have := lt_of_heap K_a.out; omega)).trans (((Below.heap_alloc _ _ _ (by (try simp only [World.size_alloc]); have := lt_of_heap K_a.out; omega)).trans (K_a.out))))
  have K_g : Hid (w4.heap[w3.heap.size]? = some (.cells #[.slice A ps.length c, .int .i64 d, .int .u8 b, .string m] 41)) := Lib.hid ((hb4.block (w3.heap.size) (by (try simp only [World.size_alloc]); omega)).trans ((by have h := World.alloc_heap_new w3 (.cells #[.slice A ps.length c, .int .i64 d, .int .u8 b, .string m] 41); (try simp only [World.size_alloc] at h); exact h)))
  clear hb4
  have lt_a4 : w1.heap.size < w4.heap.size := lt_of_heap K_a.out
  obtain ⟨a_04, a_14, a_24, fa_04, fa_14, fa_24⟩ := three_cells K_a.out
  have lt_g4 : w3.heap.size < w4.heap.size := lt_of_heap K_g.out
  obtain ⟨⟨g_04, g_14, g_24, g_34⟩, fg_04, fg_14, fg_24, fg_34⟩ := four_cells K_g.out
  go_wp2_with fail
  refine (pcc_any s (by omega) _).mono ?_
  rintro e w5 ⟨rfl, hb5⟩
  have z5 := hb5.size
  have hB5 : Below w.heap.size w w5 := below_on (w := w) (hB4) hb5
  replace K_a := Lib.hid ((hb5.block w1.heap.size (by (try simp only [World.size_alloc]); have := lt_of_heap K_a.out; omega)).trans (K_a.out))
  replace K_g := Lib.hid ((hb5.block w3.heap.size (by (try simp only [World.size_alloc]); have := lt_of_heap K_g.out; omega)).trans (K_g.out))
  clear hb5
  have lt_a5 : w1.heap.size < w5.heap.size := lt_of_heap K_a.out
  obtain ⟨a_05, a_15, a_25, fa_05, fa_15, fa_25⟩ := three_cells K_a.out
  have lt_g5 : w3.heap.size < w5.heap.size := lt_of_heap K_g.out
  obtain ⟨⟨g_05, g_15, g_25, g_35⟩, fg_05, fg_15, fg_25, fg_35⟩ := four_cells K_g.out
  go_wp2_with fail
  refine (works_any _).mono ?_
  rintro e w6 ⟨rfl, hb6⟩
  have z6 := hb6.size
  simp only [World.size_alloc] at z6
  have hB6 : Below w.heap.size w w6 := below_on (w := w) ((below_al hB5 _)) hb6
  replace K_a := Lib.hid ((hb6.block w1.heap.size (by (try simp only [World.size_alloc]); have := lt_of_heap K_a.out; omega)).trans (((Below.heap_alloc _ _ _ (by (try simp only [World.size_alloc]); have := lt_of_heap K_a.out; omega)).trans (K_a.out))))
  replace K_g := Lib.hid ((hb6.block w3.heap.size (by (try simp only [World.size_alloc]); have := lt_of_heap K_g.out; omega)).trans (((Below.heap_alloc _ _ _ (by (try simp only [World.size_alloc]); have := lt_of_heap K_g.out; omega)).trans (K_g.out))))
  have K_x : Hid (w6.heap[w5.heap.size]? = some (.cells #[.int .i64 (pcD s), .int .u8 (pcB s), .string (pcS s)] 30)) := Lib.hid ((hb6.block (w5.heap.size) (by (try simp only [World.size_alloc]); omega)).trans ((by have h := World.alloc_heap_new w5 (.cells #[.int .i64 (pcD s), .int .u8 (pcB s), .string (pcS s)] 30); (try simp only [World.size_alloc] at h); exact h)))
  clear hb6
  have lt_a6 : w1.heap.size < w6.heap.size := lt_of_heap K_a.out
  obtain ⟨a_06, a_16, a_26, fa_06, fa_16, fa_26⟩ := three_cells K_a.out
  have lt_g6 : w3.heap.size < w6.heap.size := lt_of_heap K_g.out
  obtain ⟨⟨g_06, g_16, g_26, g_36⟩, fg_06, fg_16, fg_26, fg_36⟩ := four_cells K_g.out
  have lt_x6 : w5.heap.size < w6.heap.size := lt_of_heap K_x.out
  obtain ⟨x_06, x_16, x_26, fx_06, fx_16, fx_26⟩ := three_cells K_x.out
  go_wp2
  go_ret
  exact ⟨rfl, hB6⟩

set_option maxRecDepth 100000 in
set_option maxHeartbeats 2000000 in
theorem canon_101 (s : ByteArray) (hs : s.size ≤ 3000) (ps : List Ty) (d b er : Int) (m : ByteArray) (hx : sgOf s.data.toList = (ps, (d, b, m), er)) (hp : paE s = 0) (hg : ¬ er = 0) (hq : pcE s = 0) (w : World) : Calls Tryd.prog 13 #[.string s] w fun e w' => e = .returned (.bool true) ∧ Below w.heap.size w w' := by
  have hg' := beqF hg
  clear hg
  replace hp := Lib.hid hp
  replace hq := Lib.hid hq
  have hsg := fun w => psig_all s (by omega) w
  rw [hx] at hsg
  replace hsg := Lib.hid hsg
  replace hx := Lib.hid hx
  go_enter Tryd.func13, Tryd.ntmps13
  go_wp2_with fail
  refine (parse_yes hs hp.out _).mono ?_
  rintro e w1 ⟨rfl, hb1⟩
  have z1 := hb1.size
  have hB1 : Below w.heap.size w w1 := below_on (w := w) ((Below.refl w.heap.size w)) hb1
  clear hb1
  go_wp2_with fail
  refine (fmt_pa hp.out _).mono ?_
  rintro e w2 ⟨rfl, hb2⟩
  have z2 := hb2.size
  simp only [World.size_alloc] at z2
  have hB2 : Below w.heap.size w w2 := below_on (w := w) ((below_al hB1 _)) hb2
  have K_a : Hid (w2.heap[w1.heap.size]? = some (.cells #[.int .i64 (paD s), .int .u8 (paB s), .string (paS s)] 30)) := Lib.hid ((hb2.block (w1.heap.size) (by (try simp only [World.size_alloc]); omega)).trans ((by have h := World.alloc_heap_new w1 (.cells #[.int .i64 (paD s), .int .u8 (paB s), .string (paS s)] 30); (try simp only [World.size_alloc] at h); exact h)))
  clear hb2
  have lt_a2 : w1.heap.size < w2.heap.size := lt_of_heap K_a.out
  obtain ⟨a_02, a_12, a_22, fa_02, fa_12, fa_22⟩ := three_cells K_a.out
  go_wp2_with fail
  refine (hsg.out _).mono ?_
  rintro e w3 ⟨A, c, he, ty3, hc, hb3⟩
  subst he
  clear hc
  have z3 := hb3.size
  have hB3 : Below w.heap.size w w3 := below_on (w := w) (hB2) hb3
  replace K_a := Lib.hid ((hb3.block w1.heap.size (by (try simp only [World.size_alloc]); have := lt_of_heap K_a.out; omega)).trans (K_a.out))
  clear hb3
  have lt_a3 : w1.heap.size < w3.heap.size := lt_of_heap K_a.out
  obtain ⟨a_03, a_13, a_23, fa_03, fa_13, fa_23⟩ := three_cells K_a.out
  have T := Lib.hid (tys_al ty3 (.cells #[.slice A ps.length c, .int .i64 d, .int .u8 b, .string m] 41))
  clear ty3
  go_wp2_with fail
  refine (pcc_yes hs hq.out _).mono ?_
  rintro e w4 ⟨rfl, hb4⟩
  have z4 := hb4.size
  simp only [World.size_alloc] at z4
  have hB4 : Below w.heap.size w w4 := below_on (w := w) ((below_al hB3 _)) hb4
  replace K_a := Lib.hid ((hb4.block w1.heap.size (by (try simp only [World.size_alloc]); have := lt_of_heap K_a.out; omega)).trans (((Below.heap_alloc _ _ _ (by (try simp only [World.size_alloc]); have := lt_of_heap K_a.out; omega)).trans (K_a.out))))
  have K_g : Hid (w4.heap[w3.heap.size]? = some (.cells #[.slice A ps.length c, .int .i64 d, .int .u8 b, .string m] 41)) := Lib.hid ((hb4.block (w3.heap.size) (by (try simp only [World.size_alloc]); omega)).trans ((by have h := World.alloc_heap_new w3 (.cells #[.slice A ps.length c, .int .i64 d, .int .u8 b, .string m] 41); (try simp only [World.size_alloc] at h); exact h)))
  clear hb4
  have lt_a4 : w1.heap.size < w4.heap.size := lt_of_heap K_a.out
  obtain ⟨a_04, a_14, a_24, fa_04, fa_14, fa_24⟩ := three_cells K_a.out
  have lt_g4 : w3.heap.size < w4.heap.size := lt_of_heap K_g.out
  obtain ⟨⟨g_04, g_14, g_24, g_34⟩, fg_04, fg_14, fg_24, fg_34⟩ := four_cells K_g.out
  go_wp2_with fail
  refine (fcc_pc hq.out _).mono ?_
  rintro e w5 ⟨rfl, hb5⟩
  have z5 := hb5.size
  simp only [World.size_alloc] at z5
  have hB5 : Below w.heap.size w w5 := below_on (w := w) ((below_al hB4 _)) hb5
  replace K_a := Lib.hid ((hb5.block w1.heap.size (by (try simp only [World.size_alloc]); have := lt_of_heap K_a.out; omega)).trans (((Below.heap_alloc _ _ _ (by (try simp only [World.size_alloc]); have := lt_of_heap K_a.out; omega)).trans (K_a.out))))
  replace K_g := Lib.hid ((hb5.block w3.heap.size (by (try simp only [World.size_alloc]); have := lt_of_heap K_g.out; omega)).trans (((Below.heap_alloc _ _ _ (by (try simp only [World.size_alloc]); have := lt_of_heap K_g.out; omega)).trans (K_g.out))))
  have K_x : Hid (w5.heap[w4.heap.size]? = some (.cells #[.int .i64 (pcD s), .int .u8 (pcB s), .string (pcS s)] 30)) := Lib.hid ((hb5.block (w4.heap.size) (by (try simp only [World.size_alloc]); omega)).trans ((by have h := World.alloc_heap_new w4 (.cells #[.int .i64 (pcD s), .int .u8 (pcB s), .string (pcS s)] 30); (try simp only [World.size_alloc] at h); exact h)))
  clear hb5
  have lt_a5 : w1.heap.size < w5.heap.size := lt_of_heap K_a.out
  obtain ⟨a_05, a_15, a_25, fa_05, fa_15, fa_25⟩ := three_cells K_a.out
  have lt_g5 : w3.heap.size < w5.heap.size := lt_of_heap K_g.out
  obtain ⟨⟨g_05, g_15, g_25, g_35⟩, fg_05, fg_15, fg_25, fg_35⟩ := four_cells K_g.out
  have lt_x5 : w4.heap.size < w5.heap.size := lt_of_heap K_x.out
  obtain ⟨x_05, x_15, x_25, fx_05, fx_15, fx_25⟩ := three_cells K_x.out
  go_wp2_with fail
  refine (works_any _).mono ?_
  rintro e w6 ⟨rfl, hb6⟩
  have z6 := hb6.size
  have hB6 : Below w.heap.size w w6 := below_on (w := w) (hB5) hb6
  replace K_a := Lib.hid ((hb6.block w1.heap.size (by (try simp only [World.size_alloc]); have := lt_of_heap K_a.out; omega)).trans (K_a.out))
  replace K_g := Lib.hid ((hb6.block w3.heap.size (by (try simp only [World.size_alloc]); have := lt_of_heap K_g.out; omega)).trans (K_g.out))
  replace K_x := Lib.hid ((hb6.block w4.heap.size (by (try simp only [World.size_alloc]); have := lt_of_heap K_x.out; omega)).trans (K_x.out))
  clear hb6
  have lt_a6 : w1.heap.size < w6.heap.size := lt_of_heap K_a.out
  obtain ⟨a_06, a_16, a_26, fa_06, fa_16, fa_26⟩ := three_cells K_a.out
  have lt_g6 : w3.heap.size < w6.heap.size := lt_of_heap K_g.out
  obtain ⟨⟨g_06, g_16, g_26, g_36⟩, fg_06, fg_16, fg_26, fg_36⟩ := four_cells K_g.out
  have lt_x6 : w4.heap.size < w6.heap.size := lt_of_heap K_x.out
  obtain ⟨x_06, x_16, x_26, fx_06, fx_16, fx_26⟩ := three_cells K_x.out
  go_wp2
  go_ret
  exact ⟨rfl, hB6⟩

set_option maxRecDepth 100000 in
set_option maxHeartbeats 2000000 in
theorem canon_100 (s : ByteArray) (hs : s.size ≤ 3000) (ps : List Ty) (d b er : Int) (m : ByteArray) (hx : sgOf s.data.toList = (ps, (d, b, m), er)) (hp : paE s = 0) (hg : ¬ er = 0) (hq : ¬ pcE s = 0) (w : World) : Calls Tryd.prog 13 #[.string s] w fun e w' => e = .returned (.bool true) ∧ Below w.heap.size w w' := by
  have hg' := beqF hg
  clear hg
  have hq' := beqF hq
  replace hp := Lib.hid hp
  replace hq := Lib.hid hq
  have hsg := fun w => psig_all s (by omega) w
  rw [hx] at hsg
  replace hsg := Lib.hid hsg
  replace hx := Lib.hid hx
  go_enter Tryd.func13, Tryd.ntmps13
  go_wp2_with fail
  refine (parse_yes hs hp.out _).mono ?_
  rintro e w1 ⟨rfl, hb1⟩
  have z1 := hb1.size
  have hB1 : Below w.heap.size w w1 := below_on (w := w) ((Below.refl w.heap.size w)) hb1
  clear hb1
  go_wp2_with fail
  refine (fmt_pa hp.out _).mono ?_
  rintro e w2 ⟨rfl, hb2⟩
  have z2 := hb2.size
  simp only [World.size_alloc] at z2
  have hB2 : Below w.heap.size w w2 := below_on (w := w) ((below_al hB1 _)) hb2
  have K_a : Hid (w2.heap[w1.heap.size]? = some (.cells #[.int .i64 (paD s), .int .u8 (paB s), .string (paS s)] 30)) := Lib.hid ((hb2.block (w1.heap.size) (by (try simp only [World.size_alloc]); omega)).trans ((by have h := World.alloc_heap_new w1 (.cells #[.int .i64 (paD s), .int .u8 (paB s), .string (paS s)] 30); (try simp only [World.size_alloc] at h); exact h)))
  clear hb2
  have lt_a2 : w1.heap.size < w2.heap.size := lt_of_heap K_a.out
  obtain ⟨a_02, a_12, a_22, fa_02, fa_12, fa_22⟩ := three_cells K_a.out
  go_wp2_with fail
  refine (hsg.out _).mono ?_
  rintro e w3 ⟨A, c, he, ty3, hc, hb3⟩
  subst he
  clear hc
  have z3 := hb3.size
  have hB3 : Below w.heap.size w w3 := below_on (w := w) (hB2) hb3
  replace K_a := Lib.hid ((hb3.block w1.heap.size (by (try simp only [World.size_alloc]); have := lt_of_heap K_a.out; omega)).trans (K_a.out))
  clear hb3
  have lt_a3 : w1.heap.size < w3.heap.size := lt_of_heap K_a.out
  obtain ⟨a_03, a_13, a_23, fa_03, fa_13, fa_23⟩ := three_cells K_a.out
  have T := Lib.hid (tys_al ty3 (.cells #[.slice A ps.length c, .int .i64 d, .int .u8 b, .string m] 41))
  clear ty3
  go_wp2_with fail
  refine (pcc_any s (by omega) _).mono ?_
  rintro e w4 ⟨rfl, hb4⟩
  have z4 := hb4.size
  simp only [World.size_alloc] at z4
  have hB4 : Below w.heap.size w w4 := below_on (w := w) ((below_al hB3 _)) hb4
  replace K_a := Lib.hid ((hb4.block w1.heap.size (by (try simp only [World.size_alloc]); have := lt_of_heap K_a.out; omega)).trans (((Below.heap_alloc _ _ _ (by (try simp only [World.size_alloc]); have := lt_of_heap K_a.out; omega)).trans (K_a.out))))
  have K_g : Hid (w4.heap[w3.heap.size]? = some (.cells #[.slice A ps.length c, .int .i64 d, .int .u8 b, .string m] 41)) := Lib.hid ((hb4.block (w3.heap.size) (by (try simp only [World.size_alloc]); omega)).trans ((by have h := World.alloc_heap_new w3 (.cells #[.slice A ps.length c, .int .i64 d, .int .u8 b, .string m] 41); (try simp only [World.size_alloc] at h); exact h)))
  clear hb4
  have lt_a4 : w1.heap.size < w4.heap.size := lt_of_heap K_a.out
  obtain ⟨a_04, a_14, a_24, fa_04, fa_14, fa_24⟩ := three_cells K_a.out
  have lt_g4 : w3.heap.size < w4.heap.size := lt_of_heap K_g.out
  obtain ⟨⟨g_04, g_14, g_24, g_34⟩, fg_04, fg_14, fg_24, fg_34⟩ := four_cells K_g.out
  go_wp2_with fail
  refine (works_any _).mono ?_
  rintro e w5 ⟨rfl, hb5⟩
  have z5 := hb5.size
  simp only [World.size_alloc] at z5
  have hB5 : Below w.heap.size w w5 := below_on (w := w) ((below_al hB4 _)) hb5
  replace K_a := Lib.hid ((hb5.block w1.heap.size (by (try simp only [World.size_alloc]); have := lt_of_heap K_a.out; omega)).trans (((Below.heap_alloc _ _ _ (by (try simp only [World.size_alloc]); have := lt_of_heap K_a.out; omega)).trans (K_a.out))))
  replace K_g := Lib.hid ((hb5.block w3.heap.size (by (try simp only [World.size_alloc]); have := lt_of_heap K_g.out; omega)).trans (((Below.heap_alloc _ _ _ (by (try simp only [World.size_alloc]); have := lt_of_heap K_g.out; omega)).trans (K_g.out))))
  have K_x : Hid (w5.heap[w4.heap.size]? = some (.cells #[.int .i64 (pcD s), .int .u8 (pcB s), .string (pcS s)] 30)) := Lib.hid ((hb5.block (w4.heap.size) (by (try simp only [World.size_alloc]); omega)).trans ((by have h := World.alloc_heap_new w4 (.cells #[.int .i64 (pcD s), .int .u8 (pcB s), .string (pcS s)] 30); (try simp only [World.size_alloc] at h); exact h)))
  clear hb5
  have lt_a5 : w1.heap.size < w5.heap.size := lt_of_heap K_a.out
  obtain ⟨a_05, a_15, a_25, fa_05, fa_15, fa_25⟩ := three_cells K_a.out
  have lt_g5 : w3.heap.size < w5.heap.size := lt_of_heap K_g.out
  obtain ⟨⟨g_05, g_15, g_25, g_35⟩, fg_05, fg_15, fg_25, fg_35⟩ := four_cells K_g.out
  have lt_x5 : w4.heap.size < w5.heap.size := lt_of_heap K_x.out
  obtain ⟨x_05, x_15, x_25, fx_05, fx_15, fx_25⟩ := three_cells K_x.out
  go_wp2
  go_ret
  exact ⟨rfl, hB5⟩

set_option maxRecDepth 100000 in
set_option maxHeartbeats 2000000 in
theorem canon_011 (s : ByteArray) (hs : s.size ≤ 3000) (ps : List Ty) (d b er : Int) (m : ByteArray) (hx : sgOf s.data.toList = (ps, (d, b, m), er)) (hp : ¬ paE s = 0) (hg : er = 0) (hq : pcE s = 0) (w : World) : Calls Tryd.prog 13 #[.string s] w fun e w' => e = .returned (.bool true) ∧ Below w.heap.size w w' := by
  have hp' := beqF hp
  subst hg
  replace hp := Lib.hid hp
  replace hq := Lib.hid hq
  have hsg := fun w => psig_all s (by omega) w
  rw [hx] at hsg
  replace hsg := Lib.hid hsg
  replace hx := Lib.hid hx
  go_enter Tryd.func13, Tryd.ntmps13
  go_wp2_with fail
  refine (parse_any s (by omega) _).mono ?_
  rintro e w1 ⟨rfl, hb1⟩
  have z1 := hb1.size
  have hB1 : Below w.heap.size w w1 := below_on (w := w) ((Below.refl w.heap.size w)) hb1
  clear hb1
  go_wp2_with fail
  refine (hsg.out _).mono ?_
  rintro e w2 ⟨A, c, he, ty2, hc, hb2⟩
  subst he
  clear hc
  have z2 := hb2.size
  simp only [World.size_alloc] at z2
  have hB2 : Below w.heap.size w w2 := below_on (w := w) ((below_al hB1 _)) hb2
  have K_a : Hid (w2.heap[w1.heap.size]? = some (.cells #[.int .i64 (paD s), .int .u8 (paB s), .string (paS s)] 30)) := Lib.hid ((hb2.block (w1.heap.size) (by (try simp only [World.size_alloc]); omega)).trans ((by have h := World.alloc_heap_new w1 (.cells #[.int .i64 (paD s), .int .u8 (paB s), .string (paS s)] 30); (try simp only [World.size_alloc] at h); exact h)))
  clear hb2
  have lt_a2 : w1.heap.size < w2.heap.size := lt_of_heap K_a.out
  obtain ⟨a_02, a_12, a_22, fa_02, fa_12, fa_22⟩ := three_cells K_a.out
  have T := Lib.hid (tys_al ty2 (.cells #[.slice A ps.length c, .int .i64 d, .int .u8 b, .string m] 41))
  clear ty2
  go_wp2_with fail
  refine (fsig_sg hx.out A c _ T.out).mono ?_
  rintro e w3 ⟨rfl, hb3⟩
  have z3 := hb3.size
  simp only [World.size_alloc] at z3
  have hB3 : Below w.heap.size w w3 := below_on (w := w) ((below_al hB2 _)) hb3
  replace K_a := Lib.hid ((hb3.block w1.heap.size (by (try simp only [World.size_alloc]); have := lt_of_heap K_a.out; omega)).trans (((Below.heap_alloc _ _ _ (by (try simp only [World.size_alloc]); have := lt_of_heap K_a.out; omega)).trans (K_a.out))))
  have K_g : Hid (w3.heap[w2.heap.size]? = some (.cells #[.slice A ps.length c, .int .i64 d, .int .u8 b, .string m] 41)) := Lib.hid ((hb3.block (w2.heap.size) (by (try simp only [World.size_alloc]); omega)).trans ((by have h := World.alloc_heap_new w2 (.cells #[.slice A ps.length c, .int .i64 d, .int .u8 b, .string m] 41); (try simp only [World.size_alloc] at h); exact h)))
  clear hb3
  have lt_a3 : w1.heap.size < w3.heap.size := lt_of_heap K_a.out
  obtain ⟨a_03, a_13, a_23, fa_03, fa_13, fa_23⟩ := three_cells K_a.out
  have lt_g3 : w2.heap.size < w3.heap.size := lt_of_heap K_g.out
  obtain ⟨⟨g_03, g_13, g_23, g_33⟩, fg_03, fg_13, fg_23, fg_33⟩ := four_cells K_g.out
  go_wp2_with fail
  refine (pcc_yes hs hq.out _).mono ?_
  rintro e w4 ⟨rfl, hb4⟩
  have z4 := hb4.size
  have hB4 : Below w.heap.size w w4 := below_on (w := w) (hB3) hb4
  replace K_a := Lib.hid ((hb4.block w1.heap.size (by (try simp only [World.size_alloc]); have := lt_of_heap K_a.out; omega)).trans (K_a.out))
  replace K_g := Lib.hid ((hb4.block w2.heap.size (by (try simp only [World.size_alloc]); have := lt_of_heap K_g.out; omega)).trans (K_g.out))
  clear hb4
  have lt_a4 : w1.heap.size < w4.heap.size := lt_of_heap K_a.out
  obtain ⟨a_04, a_14, a_24, fa_04, fa_14, fa_24⟩ := three_cells K_a.out
  have lt_g4 : w2.heap.size < w4.heap.size := lt_of_heap K_g.out
  obtain ⟨⟨g_04, g_14, g_24, g_34⟩, fg_04, fg_14, fg_24, fg_34⟩ := four_cells K_g.out
  go_wp2_with fail
  refine (fcc_pc hq.out _).mono ?_
  rintro e w5 ⟨rfl, hb5⟩
  have z5 := hb5.size
  simp only [World.size_alloc] at z5
  have hB5 : Below w.heap.size w w5 := below_on (w := w) ((below_al hB4 _)) hb5
  replace K_a := Lib.hid ((hb5.block w1.heap.size (by (try simp only [World.size_alloc]); have := lt_of_heap K_a.out; omega)).trans (((Below.heap_alloc _ _ _ (by (try simp only [World.size_alloc]); have := lt_of_heap K_a.out; omega)).trans (K_a.out))))
  replace K_g := Lib.hid ((hb5.block w2.heap.size (by (try simp only [World.size_alloc]); have := lt_of_heap K_g.out; omega)).trans (((Below.heap_alloc _ _ _ (by (try simp only [World.size_alloc]); have := lt_of_heap K_g.out; omega)).trans (K_g.out))))
  have K_x : Hid (w5.heap[w4.heap.size]? = some (.cells #[.int .i64 (pcD s), .int .u8 (pcB s), .string (pcS s)] 30)) := Lib.hid ((hb5.block (w4.heap.size) (by (try simp only [World.size_alloc]); omega)).trans ((by have h := World.alloc_heap_new w4 (.cells #[.int .i64 (pcD s), .int .u8 (pcB s), .string (pcS s)] 30); (try simp only [World.size_alloc] at h); exact h)))
  clear hb5
  have lt_a5 : w1.heap.size < w5.heap.size := lt_of_heap K_a.out
  obtain ⟨a_05, a_15, a_25, fa_05, fa_15, fa_25⟩ := three_cells K_a.out
  have lt_g5 : w2.heap.size < w5.heap.size := lt_of_heap K_g.out
  obtain ⟨⟨g_05, g_15, g_25, g_35⟩, fg_05, fg_15, fg_25, fg_35⟩ := four_cells K_g.out
  have lt_x5 : w4.heap.size < w5.heap.size := lt_of_heap K_x.out
  obtain ⟨x_05, x_15, x_25, fx_05, fx_15, fx_25⟩ := three_cells K_x.out
  go_wp2_with fail
  refine (works_any _).mono ?_
  rintro e w6 ⟨rfl, hb6⟩
  have z6 := hb6.size
  have hB6 : Below w.heap.size w w6 := below_on (w := w) (hB5) hb6
  replace K_a := Lib.hid ((hb6.block w1.heap.size (by (try simp only [World.size_alloc]); have := lt_of_heap K_a.out; omega)).trans (K_a.out))
  replace K_g := Lib.hid ((hb6.block w2.heap.size (by (try simp only [World.size_alloc]); have := lt_of_heap K_g.out; omega)).trans (K_g.out))
  replace K_x := Lib.hid ((hb6.block w4.heap.size (by (try simp only [World.size_alloc]); have := lt_of_heap K_x.out; omega)).trans (K_x.out))
  clear hb6
  have lt_a6 : w1.heap.size < w6.heap.size := lt_of_heap K_a.out
  obtain ⟨a_06, a_16, a_26, fa_06, fa_16, fa_26⟩ := three_cells K_a.out
  have lt_g6 : w2.heap.size < w6.heap.size := lt_of_heap K_g.out
  obtain ⟨⟨g_06, g_16, g_26, g_36⟩, fg_06, fg_16, fg_26, fg_36⟩ := four_cells K_g.out
  have lt_x6 : w4.heap.size < w6.heap.size := lt_of_heap K_x.out
  obtain ⟨x_06, x_16, x_26, fx_06, fx_16, fx_26⟩ := three_cells K_x.out
  go_wp2
  go_ret
  exact ⟨rfl, hB6⟩

set_option maxRecDepth 100000 in
set_option maxHeartbeats 2000000 in
theorem canon_010 (s : ByteArray) (hs : s.size ≤ 3000) (ps : List Ty) (d b er : Int) (m : ByteArray) (hx : sgOf s.data.toList = (ps, (d, b, m), er)) (hp : ¬ paE s = 0) (hg : er = 0) (hq : ¬ pcE s = 0) (w : World) : Calls Tryd.prog 13 #[.string s] w fun e w' => e = .returned (.bool true) ∧ Below w.heap.size w w' := by
  have hp' := beqF hp
  subst hg
  have hq' := beqF hq
  replace hp := Lib.hid hp
  replace hq := Lib.hid hq
  have hsg := fun w => psig_all s (by omega) w
  rw [hx] at hsg
  replace hsg := Lib.hid hsg
  replace hx := Lib.hid hx
  go_enter Tryd.func13, Tryd.ntmps13
  go_wp2_with fail
  refine (parse_any s (by omega) _).mono ?_
  rintro e w1 ⟨rfl, hb1⟩
  have z1 := hb1.size
  have hB1 : Below w.heap.size w w1 := below_on (w := w) ((Below.refl w.heap.size w)) hb1
  clear hb1
  go_wp2_with fail
  refine (hsg.out _).mono ?_
  rintro e w2 ⟨A, c, he, ty2, hc, hb2⟩
  subst he
  clear hc
  have z2 := hb2.size
  simp only [World.size_alloc] at z2
  have hB2 : Below w.heap.size w w2 := below_on (w := w) ((below_al hB1 _)) hb2
  have K_a : Hid (w2.heap[w1.heap.size]? = some (.cells #[.int .i64 (paD s), .int .u8 (paB s), .string (paS s)] 30)) := Lib.hid ((hb2.block (w1.heap.size) (by (try simp only [World.size_alloc]); omega)).trans ((by have h := World.alloc_heap_new w1 (.cells #[.int .i64 (paD s), .int .u8 (paB s), .string (paS s)] 30); (try simp only [World.size_alloc] at h); exact h)))
  clear hb2
  have lt_a2 : w1.heap.size < w2.heap.size := lt_of_heap K_a.out
  obtain ⟨a_02, a_12, a_22, fa_02, fa_12, fa_22⟩ := three_cells K_a.out
  have T := Lib.hid (tys_al ty2 (.cells #[.slice A ps.length c, .int .i64 d, .int .u8 b, .string m] 41))
  clear ty2
  go_wp2_with fail
  refine (fsig_sg hx.out A c _ T.out).mono ?_
  rintro e w3 ⟨rfl, hb3⟩
  have z3 := hb3.size
  simp only [World.size_alloc] at z3
  have hB3 : Below w.heap.size w w3 := below_on (w := w) ((below_al hB2 _)) hb3
  replace K_a := Lib.hid ((hb3.block w1.heap.size (by (try simp only [World.size_alloc]); have := lt_of_heap K_a.out; omega)).trans (((Below.heap_alloc _ _ _ (by (try simp only [World.size_alloc]); have := lt_of_heap K_a.out; omega)).trans (K_a.out))))
  have K_g : Hid (w3.heap[w2.heap.size]? = some (.cells #[.slice A ps.length c, .int .i64 d, .int .u8 b, .string m] 41)) := Lib.hid ((hb3.block (w2.heap.size) (by (try simp only [World.size_alloc]); omega)).trans ((by have h := World.alloc_heap_new w2 (.cells #[.slice A ps.length c, .int .i64 d, .int .u8 b, .string m] 41); (try simp only [World.size_alloc] at h); exact h)))
  clear hb3
  have lt_a3 : w1.heap.size < w3.heap.size := lt_of_heap K_a.out
  obtain ⟨a_03, a_13, a_23, fa_03, fa_13, fa_23⟩ := three_cells K_a.out
  have lt_g3 : w2.heap.size < w3.heap.size := lt_of_heap K_g.out
  obtain ⟨⟨g_03, g_13, g_23, g_33⟩, fg_03, fg_13, fg_23, fg_33⟩ := four_cells K_g.out
  go_wp2_with fail
  refine (pcc_any s (by omega) _).mono ?_
  rintro e w4 ⟨rfl, hb4⟩
  have z4 := hb4.size
  have hB4 : Below w.heap.size w w4 := below_on (w := w) (hB3) hb4
  replace K_a := Lib.hid ((hb4.block w1.heap.size (by (try simp only [World.size_alloc]); have := lt_of_heap K_a.out; omega)).trans (K_a.out))
  replace K_g := Lib.hid ((hb4.block w2.heap.size (by (try simp only [World.size_alloc]); have := lt_of_heap K_g.out; omega)).trans (K_g.out))
  clear hb4
  have lt_a4 : w1.heap.size < w4.heap.size := lt_of_heap K_a.out
  obtain ⟨a_04, a_14, a_24, fa_04, fa_14, fa_24⟩ := three_cells K_a.out
  have lt_g4 : w2.heap.size < w4.heap.size := lt_of_heap K_g.out
  obtain ⟨⟨g_04, g_14, g_24, g_34⟩, fg_04, fg_14, fg_24, fg_34⟩ := four_cells K_g.out
  go_wp2_with fail
  refine (works_any _).mono ?_
  rintro e w5 ⟨rfl, hb5⟩
  have z5 := hb5.size
  simp only [World.size_alloc] at z5
  have hB5 : Below w.heap.size w w5 := below_on (w := w) ((below_al hB4 _)) hb5
  replace K_a := Lib.hid ((hb5.block w1.heap.size (by (try simp only [World.size_alloc]); have := lt_of_heap K_a.out; omega)).trans (((Below.heap_alloc _ _ _ (by (try simp only [World.size_alloc]); have := lt_of_heap K_a.out; omega)).trans (K_a.out))))
  replace K_g := Lib.hid ((hb5.block w2.heap.size (by (try simp only [World.size_alloc]); have := lt_of_heap K_g.out; omega)).trans (((Below.heap_alloc _ _ _ (by (try simp only [World.size_alloc]); have := lt_of_heap K_g.out; omega)).trans (K_g.out))))
  have K_x : Hid (w5.heap[w4.heap.size]? = some (.cells #[.int .i64 (pcD s), .int .u8 (pcB s), .string (pcS s)] 30)) := Lib.hid ((hb5.block (w4.heap.size) (by (try simp only [World.size_alloc]); omega)).trans ((by have h := World.alloc_heap_new w4 (.cells #[.int .i64 (pcD s), .int .u8 (pcB s), .string (pcS s)] 30); (try simp only [World.size_alloc] at h); exact h)))
  clear hb5
  have lt_a5 : w1.heap.size < w5.heap.size := lt_of_heap K_a.out
  obtain ⟨a_05, a_15, a_25, fa_05, fa_15, fa_25⟩ := three_cells K_a.out
  have lt_g5 : w2.heap.size < w5.heap.size := lt_of_heap K_g.out
  obtain ⟨⟨g_05, g_15, g_25, g_35⟩, fg_05, fg_15, fg_25, fg_35⟩ := four_cells K_g.out
  have lt_x5 : w4.heap.size < w5.heap.size := lt_of_heap K_x.out
  obtain ⟨x_05, x_15, x_25, fx_05, fx_15, fx_25⟩ := three_cells K_x.out
  go_wp2
  go_ret
  exact ⟨rfl, hB5⟩

set_option maxRecDepth 100000 in
set_option maxHeartbeats 2000000 in
theorem canon_001 (s : ByteArray) (hs : s.size ≤ 3000) (ps : List Ty) (d b er : Int) (m : ByteArray) (hx : sgOf s.data.toList = (ps, (d, b, m), er)) (hp : ¬ paE s = 0) (hg : ¬ er = 0) (hq : pcE s = 0) (w : World) : Calls Tryd.prog 13 #[.string s] w fun e w' => e = .returned (.bool true) ∧ Below w.heap.size w w' := by
  have hp' := beqF hp
  have hg' := beqF hg
  clear hg
  replace hp := Lib.hid hp
  replace hq := Lib.hid hq
  have hsg := fun w => psig_all s (by omega) w
  rw [hx] at hsg
  replace hsg := Lib.hid hsg
  replace hx := Lib.hid hx
  go_enter Tryd.func13, Tryd.ntmps13
  go_wp2_with fail
  refine (parse_any s (by omega) _).mono ?_
  rintro e w1 ⟨rfl, hb1⟩
  have z1 := hb1.size
  have hB1 : Below w.heap.size w w1 := below_on (w := w) ((Below.refl w.heap.size w)) hb1
  clear hb1
  go_wp2_with fail
  refine (hsg.out _).mono ?_
  rintro e w2 ⟨A, c, he, ty2, hc, hb2⟩
  subst he
  clear hc
  have z2 := hb2.size
  simp only [World.size_alloc] at z2
  have hB2 : Below w.heap.size w w2 := below_on (w := w) ((below_al hB1 _)) hb2
  have K_a : Hid (w2.heap[w1.heap.size]? = some (.cells #[.int .i64 (paD s), .int .u8 (paB s), .string (paS s)] 30)) := Lib.hid ((hb2.block (w1.heap.size) (by (try simp only [World.size_alloc]); omega)).trans ((by have h := World.alloc_heap_new w1 (.cells #[.int .i64 (paD s), .int .u8 (paB s), .string (paS s)] 30); (try simp only [World.size_alloc] at h); exact h)))
  clear hb2
  have lt_a2 : w1.heap.size < w2.heap.size := lt_of_heap K_a.out
  obtain ⟨a_02, a_12, a_22, fa_02, fa_12, fa_22⟩ := three_cells K_a.out
  have T := Lib.hid (tys_al ty2 (.cells #[.slice A ps.length c, .int .i64 d, .int .u8 b, .string m] 41))
  clear ty2
  go_wp2_with fail
  refine (pcc_yes hs hq.out _).mono ?_
  rintro e w3 ⟨rfl, hb3⟩
  have z3 := hb3.size
  simp only [World.size_alloc] at z3
  have hB3 : Below w.heap.size w w3 := below_on (w := w) ((below_al hB2 _)) hb3
  replace K_a := Lib.hid ((hb3.block w1.heap.size (by (try simp only [World.size_alloc]); have := lt_of_heap K_a.out; omega)).trans (((Below.heap_alloc _ _ _ (by (try simp only [World.size_alloc]); have := lt_of_heap K_a.out; omega)).trans (K_a.out))))
  have K_g : Hid (w3.heap[w2.heap.size]? = some (.cells #[.slice A ps.length c, .int .i64 d, .int .u8 b, .string m] 41)) := Lib.hid ((hb3.block (w2.heap.size) (by (try simp only [World.size_alloc]); omega)).trans ((by have h := World.alloc_heap_new w2 (.cells #[.slice A ps.length c, .int .i64 d, .int .u8 b, .string m] 41); (try simp only [World.size_alloc] at h); exact h)))
  clear hb3
  have lt_a3 : w1.heap.size < w3.heap.size := lt_of_heap K_a.out
  obtain ⟨a_03, a_13, a_23, fa_03, fa_13, fa_23⟩ := three_cells K_a.out
  have lt_g3 : w2.heap.size < w3.heap.size := lt_of_heap K_g.out
  obtain ⟨⟨g_03, g_13, g_23, g_33⟩, fg_03, fg_13, fg_23, fg_33⟩ := four_cells K_g.out
  go_wp2_with fail
  refine (fcc_pc hq.out _).mono ?_
  rintro e w4 ⟨rfl, hb4⟩
  have z4 := hb4.size
  simp only [World.size_alloc] at z4
  have hB4 : Below w.heap.size w w4 := below_on (w := w) ((below_al hB3 _)) hb4
  replace K_a := Lib.hid ((hb4.block w1.heap.size (by (try simp only [World.size_alloc]); have := lt_of_heap K_a.out; omega)).trans (((Below.heap_alloc _ _ _ (by (try simp only [World.size_alloc]); have := lt_of_heap K_a.out; omega)).trans (K_a.out))))
  replace K_g := Lib.hid ((hb4.block w2.heap.size (by (try simp only [World.size_alloc]); have := lt_of_heap K_g.out; omega)).trans (((Below.heap_alloc _ _ _ (by (try simp only [World.size_alloc]); have := lt_of_heap K_g.out; omega)).trans (K_g.out))))
  have K_x : Hid (w4.heap[w3.heap.size]? = some (.cells #[.int .i64 (pcD s), .int .u8 (pcB s), .string (pcS s)] 30)) := Lib.hid ((hb4.block (w3.heap.size) (by (try simp only [World.size_alloc]); omega)).trans ((by have h := World.alloc_heap_new w3 (.cells #[.int .i64 (pcD s), .int .u8 (pcB s), .string (pcS s)] 30); (try simp only [World.size_alloc] at h); exact h)))
  clear hb4
  have lt_a4 : w1.heap.size < w4.heap.size := lt_of_heap K_a.out
  obtain ⟨a_04, a_14, a_24, fa_04, fa_14, fa_24⟩ := three_cells K_a.out
  have lt_g4 : w2.heap.size < w4.heap.size := lt_of_heap K_g.out
  obtain ⟨⟨g_04, g_14, g_24, g_34⟩, fg_04, fg_14, fg_24, fg_34⟩ := four_cells K_g.out
  have lt_x4 : w3.heap.size < w4.heap.size := lt_of_heap K_x.out
  obtain ⟨x_04, x_14, x_24, fx_04, fx_14, fx_24⟩ := three_cells K_x.out
  go_wp2_with fail
  refine (works_any _).mono ?_
  rintro e w5 ⟨rfl, hb5⟩
  have z5 := hb5.size
  have hB5 : Below w.heap.size w w5 := below_on (w := w) (hB4) hb5
  replace K_a := Lib.hid ((hb5.block w1.heap.size (by (try simp only [World.size_alloc]); have := lt_of_heap K_a.out; omega)).trans (K_a.out))
  replace K_g := Lib.hid ((hb5.block w2.heap.size (by (try simp only [World.size_alloc]); have := lt_of_heap K_g.out; omega)).trans (K_g.out))
  replace K_x := Lib.hid ((hb5.block w3.heap.size (by (try simp only [World.size_alloc]); have := lt_of_heap K_x.out; omega)).trans (K_x.out))
  clear hb5
  have lt_a5 : w1.heap.size < w5.heap.size := lt_of_heap K_a.out
  obtain ⟨a_05, a_15, a_25, fa_05, fa_15, fa_25⟩ := three_cells K_a.out
  have lt_g5 : w2.heap.size < w5.heap.size := lt_of_heap K_g.out
  obtain ⟨⟨g_05, g_15, g_25, g_35⟩, fg_05, fg_15, fg_25, fg_35⟩ := four_cells K_g.out
  have lt_x5 : w3.heap.size < w5.heap.size := lt_of_heap K_x.out
  obtain ⟨x_05, x_15, x_25, fx_05, fx_15, fx_25⟩ := three_cells K_x.out
  go_wp2
  go_ret
  exact ⟨rfl, hB5⟩

set_option maxRecDepth 100000 in
set_option maxHeartbeats 2000000 in
theorem canon_000 (s : ByteArray) (hs : s.size ≤ 3000) (ps : List Ty) (d b er : Int) (m : ByteArray) (hx : sgOf s.data.toList = (ps, (d, b, m), er)) (hp : ¬ paE s = 0) (hg : ¬ er = 0) (hq : ¬ pcE s = 0) (w : World) : Calls Tryd.prog 13 #[.string s] w fun e w' => e = .returned (.bool true) ∧ Below w.heap.size w w' := by
  have hp' := beqF hp
  have hg' := beqF hg
  clear hg
  have hq' := beqF hq
  replace hp := Lib.hid hp
  replace hq := Lib.hid hq
  have hsg := fun w => psig_all s (by omega) w
  rw [hx] at hsg
  replace hsg := Lib.hid hsg
  replace hx := Lib.hid hx
  go_enter Tryd.func13, Tryd.ntmps13
  go_wp2_with fail
  refine (parse_any s (by omega) _).mono ?_
  rintro e w1 ⟨rfl, hb1⟩
  have z1 := hb1.size
  have hB1 : Below w.heap.size w w1 := below_on (w := w) ((Below.refl w.heap.size w)) hb1
  clear hb1
  go_wp2_with fail
  refine (hsg.out _).mono ?_
  rintro e w2 ⟨A, c, he, ty2, hc, hb2⟩
  subst he
  clear hc
  have z2 := hb2.size
  simp only [World.size_alloc] at z2
  have hB2 : Below w.heap.size w w2 := below_on (w := w) ((below_al hB1 _)) hb2
  have K_a : Hid (w2.heap[w1.heap.size]? = some (.cells #[.int .i64 (paD s), .int .u8 (paB s), .string (paS s)] 30)) := Lib.hid ((hb2.block (w1.heap.size) (by (try simp only [World.size_alloc]); omega)).trans ((by have h := World.alloc_heap_new w1 (.cells #[.int .i64 (paD s), .int .u8 (paB s), .string (paS s)] 30); (try simp only [World.size_alloc] at h); exact h)))
  clear hb2
  have lt_a2 : w1.heap.size < w2.heap.size := lt_of_heap K_a.out
  obtain ⟨a_02, a_12, a_22, fa_02, fa_12, fa_22⟩ := three_cells K_a.out
  have T := Lib.hid (tys_al ty2 (.cells #[.slice A ps.length c, .int .i64 d, .int .u8 b, .string m] 41))
  clear ty2
  go_wp2_with fail
  refine (pcc_any s (by omega) _).mono ?_
  rintro e w3 ⟨rfl, hb3⟩
  have z3 := hb3.size
  simp only [World.size_alloc] at z3
  have hB3 : Below w.heap.size w w3 := below_on (w := w) ((below_al hB2 _)) hb3
  replace K_a := Lib.hid ((hb3.block w1.heap.size (by (try simp only [World.size_alloc]); have := lt_of_heap K_a.out; omega)).trans (((Below.heap_alloc _ _ _ (by (try simp only [World.size_alloc]); have := lt_of_heap K_a.out; omega)).trans (K_a.out))))
  have K_g : Hid (w3.heap[w2.heap.size]? = some (.cells #[.slice A ps.length c, .int .i64 d, .int .u8 b, .string m] 41)) := Lib.hid ((hb3.block (w2.heap.size) (by (try simp only [World.size_alloc]); omega)).trans ((by have h := World.alloc_heap_new w2 (.cells #[.slice A ps.length c, .int .i64 d, .int .u8 b, .string m] 41); (try simp only [World.size_alloc] at h); exact h)))
  clear hb3
  have lt_a3 : w1.heap.size < w3.heap.size := lt_of_heap K_a.out
  obtain ⟨a_03, a_13, a_23, fa_03, fa_13, fa_23⟩ := three_cells K_a.out
  have lt_g3 : w2.heap.size < w3.heap.size := lt_of_heap K_g.out
  obtain ⟨⟨g_03, g_13, g_23, g_33⟩, fg_03, fg_13, fg_23, fg_33⟩ := four_cells K_g.out
  go_wp2_with fail
  refine (works_any _).mono ?_
  rintro e w4 ⟨rfl, hb4⟩
  have z4 := hb4.size
  simp only [World.size_alloc] at z4
  have hB4 : Below w.heap.size w w4 := below_on (w := w) ((below_al hB3 _)) hb4
  replace K_a := Lib.hid ((hb4.block w1.heap.size (by (try simp only [World.size_alloc]); have := lt_of_heap K_a.out; omega)).trans (((Below.heap_alloc _ _ _ (by (try simp only [World.size_alloc]); have := lt_of_heap K_a.out; omega)).trans (K_a.out))))
  replace K_g := Lib.hid ((hb4.block w2.heap.size (by (try simp only [World.size_alloc]); have := lt_of_heap K_g.out; omega)).trans (((Below.heap_alloc _ _ _ (by (try simp only [World.size_alloc]); have := lt_of_heap K_g.out; omega)).trans (K_g.out))))
  have K_x : Hid (w4.heap[w3.heap.size]? = some (.cells #[.int .i64 (pcD s), .int .u8 (pcB s), .string (pcS s)] 30)) := Lib.hid ((hb4.block (w3.heap.size) (by (try simp only [World.size_alloc]); omega)).trans ((by have h := World.alloc_heap_new w3 (.cells #[.int .i64 (pcD s), .int .u8 (pcB s), .string (pcS s)] 30); (try simp only [World.size_alloc] at h); exact h)))
  clear hb4
  have lt_a4 : w1.heap.size < w4.heap.size := lt_of_heap K_a.out
  obtain ⟨a_04, a_14, a_24, fa_04, fa_14, fa_24⟩ := three_cells K_a.out
  have lt_g4 : w2.heap.size < w4.heap.size := lt_of_heap K_g.out
  obtain ⟨⟨g_04, g_14, g_24, g_34⟩, fg_04, fg_14, fg_24, fg_34⟩ := four_cells K_g.out
  have lt_x4 : w3.heap.size < w4.heap.size := lt_of_heap K_x.out
  obtain ⟨x_04, x_14, x_24, fx_04, fx_14, fx_24⟩ := three_cells K_x.out
  go_wp2
  go_ret
  exact ⟨rfl, hB4⟩

theorem canon_big (s : ByteArray) (hs : 3000 < s.size) (w : World) : Calls Tryd.prog 13 #[.string s] w fun e w' => e = .returned (.bool true) ∧ Below w.heap.size w w' := by
  have hB : Below w.heap.size w w := Below.refl _ _
  go_enter Tryd.func13, Tryd.ntmps13
  go_wp2_with (go_at_call 29; refine (works_any _).mono ?_; rintro e w1 ⟨rfl, hb1⟩; obtain ⟨hc1, hf1⟩ := bcell hb1; have hz1 := hb1.size; (try simp only [World.size_alloc, World.size_setCell] at hz1); (try have hza : w.heap.size < w1.heap.size := by omega); (try have hzb : w.heap.size + 1 < w1.heap.size := by omega); (try have hzc : w.heap.size + 1 + 1 < w1.heap.size := by omega); replace hB := below_on (w := w) ((by repeat (first | exact hB | exact Below.refl _ _ | refine below_al ?_ _ | refine below_st ?_ (by first | exact Nat.le_refl _ | exact Nat.le_add_right _ _ | (simp; omega)) _))) hb1; clear hb1)
  go_ret
  exact ⟨rfl, hB⟩
theorem canon_law (s : ByteArray) (w : World) : Calls Tryd.prog 13 #[.string s] w fun e w' => e = .returned (.bool true) ∧ Below w.heap.size w w' := by
  by_cases hs : s.size ≤ 3000
  · obtain ⟨x, hx⟩ : ∃ x : List Ty × Ty × Int, sgOf s.data.toList = x := ⟨_, rfl⟩
    obtain ⟨ps, ⟨d, b, m⟩, er⟩ := x
    by_cases hp : paE s = 0
    · by_cases hg : er = 0
      · by_cases hq : pcE s = 0
        · exact canon_111 s hs ps d b er m hx hp hg hq w
        · exact canon_110 s hs ps d b er m hx hp hg hq w
      · by_cases hq : pcE s = 0
        · exact canon_101 s hs ps d b er m hx hp hg hq w
        · exact canon_100 s hs ps d b er m hx hp hg hq w
    · by_cases hg : er = 0
      · by_cases hq : pcE s = 0
        · exact canon_011 s hs ps d b er m hx hp hg hq w
        · exact canon_010 s hs ps d b er m hx hp hg hq w
      · by_cases hq : pcE s = 0
        · exact canon_001 s hs ps d b er m hx hp hg hq w
        · exact canon_000 s hs ps d b er m hx hp hg hq w
  · exact canon_big s (by omega) w

set_option maxRecDepth 100000 in
set_option maxHeartbeats 1000000 in
theorem fsig_law (A : Option Addr) (n c : Nat) (ps : List Ty) (d b : Int) (m : ByteArray) (w : World) (hn : ps.length = n) (hty : Tys w w.heap.size A ps) (hnm : ∀ p ∈ ps, p.2.2.size ≤ 9223372036854775807) (hm : m.size ≤ 9223372036854775807) :
    Calls Tryd.prog 9 #[.agg #[.slice A n c, .int .i64 d, .int .u8 b, .string m]] w fun e w' => e = .returned (.bool true) ∧ Below w.heap.size w w' := by
  by_cases h40 : 40 < n
  · have hB : Below w.heap.size w w := Below.refl _ _
    clear hn hty hnm
    go_enter Tryd.func9, Tryd.ntmps9
    go_wp2_with (go_at_call 29; refine (works_any _).mono ?_; rintro e w1 ⟨rfl, hb1⟩; obtain ⟨hc1, hf1⟩ := bcell hb1; have hz1 := hb1.size; (try simp only [World.size_alloc, World.size_setCell] at hz1); (try have hza : w.heap.size < w1.heap.size := by omega); (try have hzb : w.heap.size + 1 < w1.heap.size := by omega); (try have hzc : w.heap.size + 1 + 1 < w1.heap.size := by omega); replace hB := below_on (w := w) ((by repeat (first | exact hB | exact Below.refl _ _ | refine below_al ?_ _ | refine below_st ?_ (by first | exact Nat.le_refl _ | exact Nat.le_add_right _ _ | (simp; omega)) _))) hb1; clear hb1)
    go_ret
    exact ⟨rfl, hB⟩
  replace hty := Lib.hid hty
  replace hnm := Lib.hid hnm
  obtain ⟨hn', hnn⟩ : Hid (ps.length = n) ∧ n ≤ 40 := ⟨hn, by omega⟩
  clear hn h40
  go_enter Tryd.func9, Tryd.ntmps9
  have T0 := Lib.hid (tys_al hty.out (.cells #[.slice A n c, .int .i64 d, .int .u8 b, .string m] 41))
  go_wp2_with fail
  refine (fsig_any A n c ps d b m _ hn'.out T0.out).mono ?_
  rintro e w1 ⟨rfl, hb1⟩
  have T1 := Lib.hid (tys_on T0.out hb1)
  have z1 := hb1.size
  simp only [World.size_alloc] at z1
  have hB1 : Below w.heap.size w w1 := below_on (w := w) ((below_al (Below.refl w.heap.size w) _)) hb1
  have K_t : Hid (w1.heap[w.heap.size]? = some (.cells #[.slice A n c, .int .i64 d, .int .u8 b, .string m] 41)) := Lib.hid ((hb1.block (w.heap.size) (by (try simp only [World.size_alloc]); omega)).trans ((by have h := World.alloc_heap_new w (.cells #[.slice A n c, .int .i64 d, .int .u8 b, .string m] 41); (try simp only [World.size_alloc] at h); exact h)))
  clear hb1
  have lt_t1 : w.heap.size < w1.heap.size := lt_of_heap K_t.out
  obtain ⟨⟨t_01, t_11, t_21, t_31⟩, ft_01, ft_11, ft_21, ft_31⟩ := four_cells K_t.out
  go_wp2_with fail
  refine (rfsig_any A n c ps d b m _ hn'.out T1.out hnm.out hm).mono ?_
  rintro e w2 ⟨rfl, hb2⟩
  have z2 := hb2.size
  have hB2 : Below w.heap.size w w2 := below_on (w := w) (hB1) hb2
  replace K_t := Lib.hid ((hb2.block w.heap.size (by (try simp only [World.size_alloc]); have := lt_of_heap K_t.out; omega)).trans (K_t.out))
  clear hb2
  have lt_t2 : w.heap.size < w2.heap.size := lt_of_heap K_t.out
  obtain ⟨⟨t_02, t_12, t_22, t_32⟩, ft_02, ft_12, ft_22, ft_32⟩ := four_cells K_t.out
  go_wp2_with fail
  refine (works_any _).mono ?_
  rintro e w3 ⟨rfl, hb3⟩
  have z3 := hb3.size
  have hB3 : Below w.heap.size w w3 := below_on (w := w) (hB2) hb3
  replace K_t := Lib.hid ((hb3.block w.heap.size (by (try simp only [World.size_alloc]); have := lt_of_heap K_t.out; omega)).trans (K_t.out))
  clear hb3
  have lt_t3 : w.heap.size < w3.heap.size := lt_of_heap K_t.out
  obtain ⟨⟨t_03, t_13, t_23, t_33⟩, ft_03, ft_13, ft_23, ft_33⟩ := four_cells K_t.out
  go_wp2
  go_ret
  exact ⟨rfl, hB3⟩

end Go.Proofs.YtfafmanjgillcaaDoor
