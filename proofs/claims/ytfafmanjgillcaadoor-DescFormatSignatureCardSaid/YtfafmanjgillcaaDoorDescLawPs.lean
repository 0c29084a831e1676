/- Layer 4: DescParseSignature, the walk. -/
import Derived.Test.YtfafmanjgillcaaDoorDescSame
namespace Go.Proofs.YtfafmanjgillcaaDoor
open Go.ChangeShapes Go.WideShapes Go.ChangeAt Go.RowKit Go.PlainAid
set_option linter.unusedSimpArgs false
set_option linter.unusedVariables false

theorem same_any (A A' : Option Addr) (n c c' : Nat) (ps : List Ty) (d b : Int) (m : ByteArray) (w : World) (hn : ps.length = n) (hnb : n ≤ 1000000) (h : Tys w w.heap.size A ps) (h' : Tys w w.heap.size A' ps) :
    Calls Tryd.prog 50 #[.agg #[.slice A n c, .int .i64 d, .int .u8 b, .string m], .agg #[.slice A' n c', .int .i64 d, .int .u8 b, .string m]] w fun e w' => e = .returned (.bool true) ∧ Below w.heap.size w w' := by
  rcases h with rfl | ⟨g, o, rfl, hg, hc⟩
  · simp at hn; subst hn; exact same_nil A A' c c' d b m w
  · rcases h' with rfl | ⟨g', o', rfl, hg', hc'⟩
    · simp at hn; subst hn; exact same_nil _ A' c c' d b m w
    · exact same_some g g' o o' n c c' ps d b m w hn hnb hg hg' hc hc'
theorem sg_len (l : List UInt8) : (sgOf l).1.length ≤ 16 := by
  unfold sgOf
  split
  · split
    · simp
    · split
      · simp
      · split
        · split
          · simp
          · simp; omega
        · simp
  · simp
theorem tys_al {w : World} {A : Option Addr} {ps : List Ty} (h : Tys w w.heap.size A ps) (o : Obj) : Tys (w.alloc o) (w.alloc o).heap.size A ps :=
  (h.below (below_al (Below.refl _ _) o)).more (by simp)
theorem tys_on {w w' : World} {A : Option Addr} {ps : List Ty} (h : Tys w w.heap.size A ps) (hb : Below w.heap.size w w') : Tys w' w'.heap.size A ps := (h.below hb).more hb.size

set_option maxRecDepth 100000 in
set_option maxHeartbeats 1000000 in
theorem parsig_law (s : ByteArray) (hs : s.size ≤ 140737488351232) (w : World) : Calls Tryd.prog 10 #[.string s] w fun e w' => e = .returned (.bool true) ∧ Below w.heap.size w w' := by
  by_cases hbig : 3000 < s.size
  · have hB : Below w.heap.size w w := Below.refl _ _
    go_enter Tryd.func10, Tryd.ntmps10
    go_wp2_with (go_at_call 29; refine (works_any _).mono ?_; rintro e w1 ⟨rfl, hb1⟩; obtain ⟨hc1, hf1⟩ := bcell hb1; have hz1 := hb1.size; (try simp only [World.size_alloc, World.size_setCell] at hz1); (try have hza : w.heap.size < w1.heap.size := by omega); (try have hzb : w.heap.size + 1 < w1.heap.size := by omega); (try have hzc : w.heap.size + 1 + 1 < w1.heap.size := by omega); replace hB := below_on (w := w) ((by repeat (first | exact hB | exact Below.refl _ _ | refine below_al ?_ _ | refine below_st ?_ (by first | exact Nat.le_refl _ | exact Nat.le_add_right _ _ | (simp; omega)) _))) hb1; clear hb1)
    go_ret
    exact ⟨rfl, hB⟩
  · have hsm : s.size ≤ 3000 := by omega
    clear hbig
    have hps := fun w => psig_all s (by omega) w
    have hrs := fun w => rsig_all s (by omega) w
    have hxl := sg_len s.data.toList
    generalize sgOf s.data.toList = x at hps hrs hxl
    obtain ⟨ps, ⟨d, b, m⟩, er⟩ := x
    simp only at hxl
    go_enter Tryd.func10, Tryd.ntmps10
    go_wp2_with fail
    refine (hps w).mono ?_
    rintro e w1 ⟨A, c, he1, ty1, hc1, hb1⟩
    subst he1
    have hle := Lib.hid (hxl : ps.length ≤ 16)
    have z1 := hb1.size
    have hB1 : Below w.heap.size w w1 := below_on (w := w) ((Below.refl w.heap.size w)) hb1
    clear hb1
    have T1 := tys_al ty1 (.cells #[.slice A ps.length c, .int .i64 d, .int .u8 b, .string m] 41)
    go_wp2_with fail
    refine (hrs _).mono ?_
    rintro e w2 ⟨A', c', he2, ty2, hc2, hb2⟩
    subst he2
    have T2 := tys_al (tys_on T1 hb2) (.cells #[.slice A' ps.length c', .int .i64 d, .int .u8 b, .string m] 41)
    have T2' := tys_al ty2 (.cells #[.slice A' ps.length c', .int .i64 d, .int .u8 b, .string m] 41)
    clear T1
    have z2 := hb2.size
    simp only [World.size_alloc] at z2
    have hB2 : Below w.heap.size w w2 := below_on (w := w) ((below_al hB1 _)) hb2
    have K_g : Hid (w2.heap[w1.heap.size]? = some (.cells #[.slice A ps.length c, .int .i64 d, .int .u8 b, .string m] 41)) := Lib.hid ((hb2.block (w1.heap.size) (by (try simp only [World.size_alloc]); omega)).trans ((by have h := World.alloc_heap_new w1 (.cells #[.slice A ps.length c, .int .i64 d, .int .u8 b, .string m] 41); (try simp only [World.size_alloc] at h); exact h)))
    clear hb2
    have lt_g : w1.heap.size < w2.heap.size := lt_of_heap K_g.out
    obtain ⟨⟨g_0, g_1, g_2, g_3⟩, fg_0, fg_1, fg_2, fg_3⟩ := four_cells K_g.out
    have hB := hB2
    go_wp2_with (first | (go_at_call 29; refine (works_any _).mono ?_; rintro e w4 ⟨rfl, hb4⟩; replace hB := below_on (w := w) (by repeat (first | exact hB | exact Below.refl _ _ | refine below_al ?_ _ | refine below_st ?_ (by first | exact Nat.le_refl _ | exact Nat.le_add_right _ _ | (simp; omega)) _)) hb4; clear hb4) | (go_at_call 50; refine (same_any _ _ _ _ _ ps _ _ _ _ rfl (by have := hle.out; omega) T2 T2').mono ?_; rintro e w3 ⟨rfl, hb3⟩; replace hB := below_on (w := w) (by repeat (first | exact hB | exact Below.refl _ _ | refine below_al ?_ _ | refine below_st ?_ (by first | exact Nat.le_refl _ | exact Nat.le_add_right _ _ | (simp; omega)) _)) hb3; clear hb3))
    go_ret
    exact ⟨rfl, hB⟩

end Go.Proofs.YtfafmanjgillcaaDoor
