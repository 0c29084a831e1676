/- Layer 5: PoolValidReadable, the walk. -/
import Derived.Test.YtfcefeepkpkcmaaDoorPoolLawCk
import Derived.Test.YtfcefeepkpkcmaaDoorPoolValid
namespace Go.Proofs.YtfcefeepkpkcmaaDoor
open Go.ChangeShapes Go.WideShapes Go.ChangeAt Go.RowKit Go.PlainAid
set_option linter.unusedSimpArgs false
set_option linter.unusedVariables false

set_option maxHeartbeats 1000000 in
theorem asked_1 {w0 : World} {A : Option Addr} {n c : Nat} {L : List Cn} (i : Int) (s : ByteArray) (m a b : Int) (hi : atE L i = 0) (hc : atC L i = ⟨1, s, m, a, b⟩) (hz : tgE L i 1 = 0) (hn : L.length = n) (hN : n ≤ 100000) (hp : Pool w0 w0.heap.size A L) (w : World) (hb : Below w0.heap.size w0 w) :
    Calls Tryd.prog 39 #[.slice A n c, .int .i64 i] w fun e w' => e = .returned (.bool true) ∧ Below w.heap.size w w' := by
  have HP := Lib.hid (hp.up hb)
  have HN := Lib.hid hn
  clear hp hb hn
  have hB : Below w.heap.size w w := Below.refl _ _
  have ha := at_any (c := c) i HN.out hN HP.out w (Below.refl _ _)
  rw [hi, hc] at ha
  clear hi hc
  go_enter Tryd.func39, Tryd.ntmps39
  go_wp2_with (first | (go_at_call 16; refine (utf_any i HN.out hN HP.out _ (by repeat (first | with_reducible exact hB | with_reducible exact Below.refl _ _ | with_reducible refine below_al ?_ _ | with_reducible refine below_st ?_ (by first | exact Nat.le_refl _ | exact Nat.le_add_right _ _ | (simp; omega)) _))).mono ?_; rintro e w1 ⟨rfl, hb1⟩; obtain ⟨hc1, hf1⟩ := bcell hb1; have hz1 := hb1.size; (try simp only [World.size_alloc, World.size_setCell] at hz1); (try have hza : w.heap.size < w1.heap.size := by omega); (try have hzb : w.heap.size + 1 < w1.heap.size := by omega); (try have hzc : w.heap.size + 1 + 1 < w1.heap.size := by omega); (try have hzd : wa.heap.size < w1.heap.size := by omega); (try replace hR := (hb1.block w.heap.size (by first | exact lt_heap hR | (have := lt_heap hR; simp; omega))).trans (by first | with_reducible exact hR | with_reducible exact laid_old hR)); replace hB := below_on (w := w) ((by repeat (first | with_reducible exact hB | with_reducible exact Below.refl _ _ | with_reducible refine below_al ?_ _ | with_reducible refine below_st ?_ (by first | exact Nat.le_refl _ | exact Nat.le_add_right _ _ | (simp; omega)) _))) hb1; clear hb1) | (go_at_call 14; refine ha.mono ?_; rintro e w1 ⟨rfl, hb1⟩; replace hB := below_on (w := w) hB hb1; clear hb1))
  go_ret
  exact ⟨rfl, (by repeat (first | with_reducible exact hB | with_reducible exact Below.refl _ _ | with_reducible refine below_al ?_ _ | with_reducible refine below_st ?_ (by first | exact Nat.le_refl _ | exact Nat.le_add_right _ _ | (simp; omega)) _))⟩
set_option maxHeartbeats 1000000 in
theorem asked_3 {w0 : World} {A : Option Addr} {n c : Nat} {L : List Cn} (i : Int) (s : ByteArray) (m a b : Int) (hi : atE L i = 0) (hc : atC L i = ⟨3, s, m, a, b⟩) (hn : L.length = n) (hN : n ≤ 100000) (hp : Pool w0 w0.heap.size A L) (w : World) (hb : Below w0.heap.size w0 w) :
    Calls Tryd.prog 39 #[.slice A n c, .int .i64 i] w fun e w' => e = .returned (.bool true) ∧ Below w.heap.size w w' := by
  have HP := Lib.hid (hp.up hb)
  have HN := Lib.hid hn
  clear hp hb hn
  have hB : Below w.heap.size w w := Below.refl _ _
  have ha := at_any (c := c) i HN.out hN HP.out w (Below.refl _ _)
  rw [hi, hc] at ha
  clear hi hc
  go_enter Tryd.func39, Tryd.ntmps39
  go_wp2_with (first | (go_at_call 14; refine ha.mono ?_; rintro e w1 ⟨rfl, hb1⟩; replace hB := below_on (w := w) hB hb1; clear hb1))
  go_ret
  exact ⟨rfl, (by repeat (first | with_reducible exact hB | with_reducible exact Below.refl _ _ | with_reducible refine below_al ?_ _ | with_reducible refine below_st ?_ (by first | exact Nat.le_refl _ | exact Nat.le_add_right _ _ | (simp; omega)) _))⟩
set_option maxHeartbeats 1000000 in
theorem asked_5 {w0 : World} {A : Option Addr} {n c : Nat} {L : List Cn} (i : Int) (s : ByteArray) (m a b : Int) (hi : atE L i = 0) (hc : atC L i = ⟨5, s, m, a, b⟩) (hn : L.length = n) (hN : n ≤ 100000) (hp : Pool w0 w0.heap.size A L) (w : World) (hb : Below w0.heap.size w0 w) :
    Calls Tryd.prog 39 #[.slice A n c, .int .i64 i] w fun e w' => e = .returned (.bool true) ∧ Below w.heap.size w w' := by
  have HP := Lib.hid (hp.up hb)
  have HN := Lib.hid hn
  clear hp hb hn
  have hB : Below w.heap.size w w := Below.refl _ _
  have ha := at_any (c := c) i HN.out hN HP.out w (Below.refl _ _)
  rw [hi, hc] at ha
  clear hi hc
  go_enter Tryd.func39, Tryd.ntmps39
  go_wp2_with (first | (go_at_call 14; refine ha.mono ?_; rintro e w1 ⟨rfl, hb1⟩; replace hB := below_on (w := w) hB hb1; clear hb1))
  go_ret
  exact ⟨rfl, (by repeat (first | with_reducible exact hB | with_reducible exact Below.refl _ _ | with_reducible refine below_al ?_ _ | with_reducible refine below_st ?_ (by first | exact Nat.le_refl _ | exact Nat.le_add_right _ _ | (simp; omega)) _))⟩
set_option maxHeartbeats 1000000 in
theorem asked_7 {w0 : World} {A : Option Addr} {n c : Nat} {L : List Cn} (i : Int) (s : ByteArray) (m a b : Int) (hi : atE L i = 0) (hc : atC L i = ⟨7, s, m, a, b⟩) (hz : nmE L i 7 = 0) (hn : L.length = n) (hN : n ≤ 100000) (hp : Pool w0 w0.heap.size A L) (w : World) (hb : Below w0.heap.size w0 w) :
    Calls Tryd.prog 39 #[.slice A n c, .int .i64 i] w fun e w' => e = .returned (.bool true) ∧ Below w.heap.size w w' := by
  have HP := Lib.hid (hp.up hb)
  have HN := Lib.hid hn
  clear hp hb hn
  have hB : Below w.heap.size w w := Below.refl _ _
  have ha := at_any (c := c) i HN.out hN HP.out w (Below.refl _ _)
  rw [hi, hc] at ha
  clear hi hc
  go_enter Tryd.func39, Tryd.ntmps39
  go_wp2_with (first | (go_at_call 18; refine (cn_any i HN.out hN HP.out _ (by repeat (first | with_reducible exact hB | with_reducible exact Below.refl _ _ | with_reducible refine below_al ?_ _ | with_reducible refine below_st ?_ (by first | exact Nat.le_refl _ | exact Nat.le_add_right _ _ | (simp; omega)) _))).mono ?_; rintro e w1 ⟨rfl, hb1⟩; obtain ⟨hc1, hf1⟩ := bcell hb1; have hz1 := hb1.size; (try simp only [World.size_alloc, World.size_setCell] at hz1); (try have hza : w.heap.size < w1.heap.size := by omega); (try have hzb : w.heap.size + 1 < w1.heap.size := by omega); (try have hzc : w.heap.size + 1 + 1 < w1.heap.size := by omega); (try have hzd : wa.heap.size < w1.heap.size := by omega); (try replace hR := (hb1.block w.heap.size (by first | exact lt_heap hR | (have := lt_heap hR; simp; omega))).trans (by first | with_reducible exact hR | with_reducible exact laid_old hR)); replace hB := below_on (w := w) ((by repeat (first | with_reducible exact hB | with_reducible exact Below.refl _ _ | with_reducible refine below_al ?_ _ | with_reducible refine below_st ?_ (by first | exact Nat.le_refl _ | exact Nat.le_add_right _ _ | (simp; omega)) _))) hb1; clear hb1) | (go_at_call 14; refine ha.mono ?_; rintro e w1 ⟨rfl, hb1⟩; replace hB := below_on (w := w) hB hb1; clear hb1))
  go_ret
  exact ⟨rfl, (by repeat (first | with_reducible exact hB | with_reducible exact Below.refl _ _ | with_reducible refine below_al ?_ _ | with_reducible refine below_st ?_ (by first | exact Nat.le_refl _ | exact Nat.le_add_right _ _ | (simp; omega)) _))⟩
set_option maxHeartbeats 1000000 in
theorem asked_8 {w0 : World} {A : Option Addr} {n c : Nat} {L : List Cn} (i : Int) (s : ByteArray) (m a b : Int) (hi : atE L i = 0) (hc : atC L i = ⟨8, s, m, a, b⟩) (hz : nmE L i 8 = 0) (hn : L.length = n) (hN : n ≤ 100000) (hp : Pool w0 w0.heap.size A L) (w : World) (hb : Below w0.heap.size w0 w) :
    Calls Tryd.prog 39 #[.slice A n c, .int .i64 i] w fun e w' => e = .returned (.bool true) ∧ Below w.heap.size w w' := by
  have HP := Lib.hid (hp.up hb)
  have HN := Lib.hid hn
  clear hp hb hn
  have hB : Below w.heap.size w w := Below.refl _ _
  have ha := at_any (c := c) i HN.out hN HP.out w (Below.refl _ _)
  rw [hi, hc] at ha
  clear hi hc
  go_enter Tryd.func39, Tryd.ntmps39
  go_wp2_with (first | (go_at_call 20; refine (sv_any i HN.out hN HP.out _ (by repeat (first | with_reducible exact hB | with_reducible exact Below.refl _ _ | with_reducible refine below_al ?_ _ | with_reducible refine below_st ?_ (by first | exact Nat.le_refl _ | exact Nat.le_add_right _ _ | (simp; omega)) _))).mono ?_; rintro e w1 ⟨rfl, hb1⟩; obtain ⟨hc1, hf1⟩ := bcell hb1; have hz1 := hb1.size; (try simp only [World.size_alloc, World.size_setCell] at hz1); (try have hza : w.heap.size < w1.heap.size := by omega); (try have hzb : w.heap.size + 1 < w1.heap.size := by omega); (try have hzc : w.heap.size + 1 + 1 < w1.heap.size := by omega); (try have hzd : wa.heap.size < w1.heap.size := by omega); (try replace hR := (hb1.block w.heap.size (by first | exact lt_heap hR | (have := lt_heap hR; simp; omega))).trans (by first | with_reducible exact hR | with_reducible exact laid_old hR)); replace hB := below_on (w := w) ((by repeat (first | with_reducible exact hB | with_reducible exact Below.refl _ _ | with_reducible refine below_al ?_ _ | with_reducible refine below_st ?_ (by first | exact Nat.le_refl _ | exact Nat.le_add_right _ _ | (simp; omega)) _))) hb1; clear hb1) | (go_at_call 14; refine ha.mono ?_; rintro e w1 ⟨rfl, hb1⟩; replace hB := below_on (w := w) hB hb1; clear hb1))
  go_ret
  exact ⟨rfl, (by repeat (first | with_reducible exact hB | with_reducible exact Below.refl _ _ | with_reducible refine below_al ?_ _ | with_reducible refine below_st ?_ (by first | exact Nat.le_refl _ | exact Nat.le_add_right _ _ | (simp; omega)) _))⟩
set_option maxHeartbeats 1000000 in
theorem asked_12 {w0 : World} {A : Option Addr} {n c : Nat} {L : List Cn} (i : Int) (s : ByteArray) (m a b : Int) (hi : atE L i = 0) (hc : atC L i = ⟨12, s, m, a, b⟩) (hz : ntE L i = 0) (hn : L.length = n) (hN : n ≤ 100000) (hp : Pool w0 w0.heap.size A L) (w : World) (hb : Below w0.heap.size w0 w) :
    Calls Tryd.prog 39 #[.slice A n c, .int .i64 i] w fun e w' => e = .returned (.bool true) ∧ Below w.heap.size w w' := by
  have HP := Lib.hid (hp.up hb)
  have HN := Lib.hid hn
  clear hp hb hn
  have hB : Below w.heap.size w w := Below.refl _ _
  have ha := at_any (c := c) i HN.out hN HP.out w (Below.refl _ _)
  rw [hi, hc] at ha
  clear hi hc
  go_enter Tryd.func39, Tryd.ntmps39
  go_wp2_with (first | (go_at_call 22; refine (nt_any i HN.out hN HP.out _ (by repeat (first | with_reducible exact hB | with_reducible exact Below.refl _ _ | with_reducible refine below_al ?_ _ | with_reducible refine below_st ?_ (by first | exact Nat.le_refl _ | exact Nat.le_add_right _ _ | (simp; omega)) _))).mono ?_; rintro e w1 ⟨rfl, hb1⟩; obtain ⟨hc1, hf1⟩ := bcell hb1; have hz1 := hb1.size; (try simp only [World.size_alloc, World.size_setCell] at hz1); (try have hza : w.heap.size < w1.heap.size := by omega); (try have hzb : w.heap.size + 1 < w1.heap.size := by omega); (try have hzc : w.heap.size + 1 + 1 < w1.heap.size := by omega); (try have hzd : wa.heap.size < w1.heap.size := by omega); (try replace hR := (hb1.block w.heap.size (by first | exact lt_heap hR | (have := lt_heap hR; simp; omega))).trans (by first | with_reducible exact hR | with_reducible exact laid_old hR)); replace hB := below_on (w := w) ((by repeat (first | with_reducible exact hB | with_reducible exact Below.refl _ _ | with_reducible refine below_al ?_ _ | with_reducible refine below_st ?_ (by first | exact Nat.le_refl _ | exact Nat.le_add_right _ _ | (simp; omega)) _))) hb1; clear hb1) | (go_at_call 14; refine ha.mono ?_; rintro e w1 ⟨rfl, hb1⟩; replace hB := below_on (w := w) hB hb1; clear hb1))
  go_ret
  exact ⟨rfl, (by repeat (first | with_reducible exact hB | with_reducible exact Below.refl _ _ | with_reducible refine below_al ?_ _ | with_reducible refine below_st ?_ (by first | exact Nat.le_refl _ | exact Nat.le_add_right _ _ | (simp; omega)) _))⟩
set_option maxHeartbeats 1000000 in
theorem asked_9 {w0 : World} {A : Option Addr} {n c : Nat} {L : List Cn} (i : Int) (s : ByteArray) (m a b : Int) (hi : atE L i = 0) (hc : atC L i = ⟨9, s, m, a, b⟩) (hz : mrE L i 9 = 0) (hn : L.length = n) (hN : n ≤ 100000) (hp : Pool w0 w0.heap.size A L) (w : World) (hb : Below w0.heap.size w0 w) :
    Calls Tryd.prog 39 #[.slice A n c, .int .i64 i] w fun e w' => e = .returned (.bool true) ∧ Below w.heap.size w w' := by
  have HP := Lib.hid (hp.up hb)
  have HN := Lib.hid hn
  clear hp hb hn
  have hB : Below w.heap.size w w := Below.refl _ _
  have ha := at_any (c := c) i HN.out hN HP.out w (Below.refl _ _)
  rw [hi, hc] at ha
  clear hi hc
  go_enter Tryd.func39, Tryd.ntmps39
  go_wp2_with (first | (go_at_call 24; refine (mr_any i 9 HN.out hN HP.out _ (by repeat (first | with_reducible exact hB | with_reducible exact Below.refl _ _ | with_reducible refine below_al ?_ _ | with_reducible refine below_st ?_ (by first | exact Nat.le_refl _ | exact Nat.le_add_right _ _ | (simp; omega)) _))).mono ?_; rintro e w1 ⟨rfl, hb1⟩; obtain ⟨hc1, hf1⟩ := bcell hb1; have hz1 := hb1.size; (try simp only [World.size_alloc, World.size_setCell] at hz1); (try have hza : w.heap.size < w1.heap.size := by omega); (try have hzb : w.heap.size + 1 < w1.heap.size := by omega); (try have hzc : w.heap.size + 1 + 1 < w1.heap.size := by omega); (try have hzd : wa.heap.size < w1.heap.size := by omega); (try replace hR := (hb1.block w.heap.size (by first | exact lt_heap hR | (have := lt_heap hR; simp; omega))).trans (by first | with_reducible exact hR | with_reducible exact laid_old hR)); replace hB := below_on (w := w) ((by repeat (first | with_reducible exact hB | with_reducible exact Below.refl _ _ | with_reducible refine below_al ?_ _ | with_reducible refine below_st ?_ (by first | exact Nat.le_refl _ | exact Nat.le_add_right _ _ | (simp; omega)) _))) hb1; clear hb1) | (go_at_call 14; refine ha.mono ?_; rintro e w1 ⟨rfl, hb1⟩; replace hB := below_on (w := w) hB hb1; clear hb1))
  go_ret
  exact ⟨rfl, (by repeat (first | with_reducible exact hB | with_reducible exact Below.refl _ _ | with_reducible refine below_al ?_ _ | with_reducible refine below_st ?_ (by first | exact Nat.le_refl _ | exact Nat.le_add_right _ _ | (simp; omega)) _))⟩
set_option maxHeartbeats 1000000 in
theorem asked_10 {w0 : World} {A : Option Addr} {n c : Nat} {L : List Cn} (i : Int) (s : ByteArray) (m a b : Int) (hi : atE L i = 0) (hc : atC L i = ⟨10, s, m, a, b⟩) (hz : mrE L i 10 = 0) (hn : L.length = n) (hN : n ≤ 100000) (hp : Pool w0 w0.heap.size A L) (w : World) (hb : Below w0.heap.size w0 w) :
    Calls Tryd.prog 39 #[.slice A n c, .int .i64 i] w fun e w' => e = .returned (.bool true) ∧ Below w.heap.size w w' := by
  have HP := Lib.hid (hp.up hb)
  have HN := Lib.hid hn
  clear hp hb hn
  have hB : Below w.heap.size w w := Below.refl _ _
  have ha := at_any (c := c) i HN.out hN HP.out w (Below.refl _ _)
  rw [hi, hc] at ha
  clear hi hc
  go_enter Tryd.func39, Tryd.ntmps39
  go_wp2_with (first | (go_at_call 24; refine (mr_any i 10 HN.out hN HP.out _ (by repeat (first | with_reducible exact hB | with_reducible exact Below.refl _ _ | with_reducible refine below_al ?_ _ | with_reducible refine below_st ?_ (by first | exact Nat.le_refl _ | exact Nat.le_add_right _ _ | (simp; omega)) _))).mono ?_; rintro e w1 ⟨rfl, hb1⟩; obtain ⟨hc1, hf1⟩ := bcell hb1; have hz1 := hb1.size; (try simp only [World.size_alloc, World.size_setCell] at hz1); (try have hza : w.heap.size < w1.heap.size := by omega); (try have hzb : w.heap.size + 1 < w1.heap.size := by omega); (try have hzc : w.heap.size + 1 + 1 < w1.heap.size := by omega); (try have hzd : wa.heap.size < w1.heap.size := by omega); (try replace hR := (hb1.block w.heap.size (by first | exact lt_heap hR | (have := lt_heap hR; simp; omega))).trans (by first | with_reducible exact hR | with_reducible exact laid_old hR)); replace hB := below_on (w := w) ((by repeat (first | with_reducible exact hB | with_reducible exact Below.refl _ _ | with_reducible refine below_al ?_ _ | with_reducible refine below_st ?_ (by first | exact Nat.le_refl _ | exact Nat.le_add_right _ _ | (simp; omega)) _))) hb1; clear hb1) | (go_at_call 14; refine ha.mono ?_; rintro e w1 ⟨rfl, hb1⟩; replace hB := below_on (w := w) hB hb1; clear hb1))
  go_ret
  exact ⟨rfl, (by repeat (first | with_reducible exact hB | with_reducible exact Below.refl _ _ | with_reducible refine below_al ?_ _ | with_reducible refine below_st ?_ (by first | exact Nat.le_refl _ | exact Nat.le_add_right _ _ | (simp; omega)) _))⟩
set_option maxHeartbeats 1000000 in
theorem asked_11 {w0 : World} {A : Option Addr} {n c : Nat} {L : List Cn} (i : Int) (s : ByteArray) (m a b : Int) (hi : atE L i = 0) (hc : atC L i = ⟨11, s, m, a, b⟩) (hz : mrE L i 11 = 0) (hn : L.length = n) (hN : n ≤ 100000) (hp : Pool w0 w0.heap.size A L) (w : World) (hb : Below w0.heap.size w0 w) :
    Calls Tryd.prog 39 #[.slice A n c, .int .i64 i] w fun e w' => e = .returned (.bool true) ∧ Below w.heap.size w w' := by
  have HP := Lib.hid (hp.up hb)
  have HN := Lib.hid hn
  clear hp hb hn
  have hB : Below w.heap.size w w := Below.refl _ _
  have ha := at_any (c := c) i HN.out hN HP.out w (Below.refl _ _)
  rw [hi, hc] at ha
  clear hi hc
  go_enter Tryd.func39, Tryd.ntmps39
  go_wp2_with (first | (go_at_call 24; refine (mr_any i 11 HN.out hN HP.out _ (by repeat (first | with_reducible exact hB | with_reducible exact Below.refl _ _ | with_reducible refine below_al ?_ _ | with_reducible refine below_st ?_ (by first | exact Nat.le_refl _ | exact Nat.le_add_right _ _ | (simp; omega)) _))).mono ?_; rintro e w1 ⟨rfl, hb1⟩; obtain ⟨hc1, hf1⟩ := bcell hb1; have hz1 := hb1.size; (try simp only [World.size_alloc, World.size_setCell] at hz1); (try have hza : w.heap.size < w1.heap.size := by omega); (try have hzb : w.heap.size + 1 < w1.heap.size := by omega); (try have hzc : w.heap.size + 1 + 1 < w1.heap.size := by omega); (try have hzd : wa.heap.size < w1.heap.size := by omega); (try replace hR := (hb1.block w.heap.size (by first | exact lt_heap hR | (have := lt_heap hR; simp; omega))).trans (by first | with_reducible exact hR | with_reducible exact laid_old hR)); replace hB := below_on (w := w) ((by repeat (first | with_reducible exact hB | with_reducible exact Below.refl _ _ | with_reducible refine below_al ?_ _ | with_reducible refine below_st ?_ (by first | exact Nat.le_refl _ | exact Nat.le_add_right _ _ | (simp; omega)) _))) hb1; clear hb1) | (go_at_call 14; refine ha.mono ?_; rintro e w1 ⟨rfl, hb1⟩; replace hB := below_on (w := w) hB hb1; clear hb1))
  go_ret
  exact ⟨rfl, (by repeat (first | with_reducible exact hB | with_reducible exact Below.refl _ _ | with_reducible refine below_al ?_ _ | with_reducible refine below_st ?_ (by first | exact Nat.le_refl _ | exact Nat.le_add_right _ _ | (simp; omega)) _))⟩

theorem ad_mem {L : List Cn} {x y : Cn} (h : y ∈ adL L x) : y ∈ L ∨ y = x := by
  by_cases h1 : ixN L x < L.length
  · rw [(ad_1 h1).1] at h; exact Or.inl h
  · by_cases h2 : 1000 ≤ L.length
    · rw [(ad_2 h1 h2).1] at h; exact Or.inl h
    · rw [(ad_3 h1 h2).1] at h
      rcases List.mem_append.1 h with h | h
      · exact Or.inl h
      · exact Or.inr (by simpa using h)
theorem asked_any {w0 : World} {A : Option Addr} {n c : Nat} {L : List Cn} (i : Int) (hi : atE L i = 0) (hv : Valid L) (hn : L.length = n) (hN : n ≤ 100000) (hp : Pool w0 w0.heap.size A L) (w : World) (hb : Below w0.heap.size w0 w) :
    Calls Tryd.prog 39 #[.slice A n c, .int .i64 i] w fun e w' => e = .returned (.bool true) ∧ Below w.heap.size w w' := by
  have hm : atC L i ∈ L := by
    have hr := at_range hi
    unfold atC
    rw [if_pos hr, List.getD_eq_getElem?_getD, List.getElem?_eq_getElem (by omega)]
    exact List.getElem_mem _
  have hck := hv _ hm
  obtain ⟨hk, hf⟩ := ck_parts hck
  generalize hg : atC L i = p at hm hck hk hf
  obtain ⟨t, s, m, a, b⟩ := p
  have ht0 : (atC L i).t = t := by rw [hg]
  have hz := (tg_3 hi ht0).2
  have hx : 7 ≤ t → bxE L t a b = 0 := fun h7 => (ck_idx hck h7).1
  have hme : 9 ≤ t ∧ t ≤ 11 → mrE L i t = 0 := by
    intro ht
    obtain ⟨h1, h2⟩ := bxm ht (hx (by omega))
    have g := mr_5 (L := L) (i := i) (t := t) hi ⟨by rcases (by omega : t = 9 ∨ t = 10 ∨ t = 11) with rfl | rfl | rfl <;> rfl, ht0⟩ (by rw [hg]; exact v_nm hv (Or.inl rfl) h1) (by rw [hg]; exact v_nt hv h2)
    exact g.2.2.2
  clear hck hf hm hx
  rcases kn_cases hk with ht | ht | ht | ht | ht | ht | ht | ht | ht <;> (simp only at ht; subst ht)
  · exact asked_1 i s m a b hi hg hz hn hN hp w hb
  · exact asked_3 i s m a b hi hg hn hN hp w hb
  · exact asked_5 i s m a b hi hg hn hN hp w hb
  · exact asked_7 i s m a b hi hg (v_nm hv (Or.inl rfl) hz) hn hN hp w hb
  · exact asked_8 i s m a b hi hg (v_nm hv (Or.inr rfl) hz) hn hN hp w hb
  · exact asked_12 i s m a b hi hg (v_nt hv hz) hn hN hp w hb
  · exact asked_9 i s m a b hi hg (hme (by decide)) hn hN hp w hb
  · exact asked_10 i s m a b hi hg (hme (by decide)) hn hN hp w hb
  · exact asked_11 i s m a b hi hg (hme (by decide)) hn hN hp w hb

set_option maxRecDepth 100000 in
set_option maxHeartbeats 1000000 in
theorem val_bad {A : Option Addr} {n c : Nat} {L : List Cn} (s : ByteArray) (hs : s.size ≤ 140737488351232) (hS : Fits L) (hn : L.length = n) (hc : n ≤ c) (w : World) (hp : Pool w w.heap.size A L) (hf : n ≤ 1100) (hE : (chE L != 0) = true) :
    Calls Tryd.prog 7 #[.slice A n c, .string s] w fun e w' => e = .returned (.bool true) ∧ Below w.heap.size w w' := by
  have HP := Lib.hid hp
  have HN := Lib.hid hn
  clear hp hn
  have hB : Below w.heap.size w w := Below.refl _ _
  have hN : n ≤ 100000 := by omega
  have hF : 0 ≤ chI L ∧ chI L ≤ (n : Int) ∧ (decide (0 < chI L) == (chE L != 5)) = true := by
    by_cases h1 : 1000 < L.length
    · obtain ⟨a, b⟩ := ch_1 h1
      rw [a, b]; exact ⟨by decide, by omega, by decide⟩
    · by_cases h2 : badN L < L.length
      · obtain ⟨a, b⟩ := ch_2 h1 h2
        have h5 := ck_not5 L (L.getD (badN L) cnZ)
        rw [a, b, ← HN.out]
        refine ⟨by omega, by omega, ?_⟩
        rw [decide_eq_true (by omega)]
        simpa using h5
      · rw [(ch_3 h1 h2).2] at hE; cases hE
  obtain ⟨f1, f2, f3⟩ := hF
  go_enter Tryd.func7, Tryd.ntmps7
  go_wp2_with (first | (go_at_call 12; refine (few_yes hf _).mono ?_; rintro e w1 ⟨rfl, hb1⟩; obtain ⟨hc1, hf1⟩ := bcell hb1; have hz1 := hb1.size; (try simp only [World.size_alloc, World.size_setCell] at hz1); (try have hza : w.heap.size < w1.heap.size := by omega); (try have hzb : w.heap.size + 1 < w1.heap.size := by omega); (try have hzc : w.heap.size + 1 + 1 < w1.heap.size := by omega); (try have hzd : wa.heap.size < w1.heap.size := by omega); (try replace hR := (hb1.block w.heap.size (by first | exact lt_heap hR | (have := lt_heap hR; simp; omega))).trans (by first | with_reducible exact hR | with_reducible exact laid_old hR)); replace hB := below_on (w := w) ((by repeat (first | with_reducible exact hB | with_reducible exact Below.refl _ _ | with_reducible refine below_al ?_ _ | with_reducible refine below_st ?_ (by first | exact Nat.le_refl _ | exact Nat.le_add_right _ _ | (simp; omega)) _))) hb1; clear hb1) | (go_at_call 26; refine (check_any hS HN.out hN HP.out _ hB).mono ?_; rintro e w1 ⟨rfl, hb1⟩; replace hB := below_on (w := w) hB hb1; clear hb1) | (go_at_call 13; refine (awake_any _).mono ?_; rintro e w1 ⟨rfl, hb1⟩; obtain ⟨hc1, hf1⟩ := bcell hb1; have hz1 := hb1.size; (try simp only [World.size_alloc, World.size_setCell] at hz1); (try have hza : w.heap.size < w1.heap.size := by omega); (try have hzb : w.heap.size + 1 < w1.heap.size := by omega); (try have hzc : w.heap.size + 1 + 1 < w1.heap.size := by omega); (try have hzd : wa.heap.size < w1.heap.size := by omega); (try replace hR := (hb1.block w.heap.size (by first | exact lt_heap hR | (have := lt_heap hR; simp; omega))).trans (by first | with_reducible exact hR | with_reducible exact laid_old hR)); replace hB := below_on (w := w) ((by repeat (first | with_reducible exact hB | with_reducible exact Below.refl _ _ | with_reducible refine below_al ?_ _ | with_reducible refine below_st ?_ (by first | exact Nat.le_refl _ | exact Nat.le_add_right _ _ | (simp; omega)) _))) hb1; clear hb1))
  go_ret
  exact ⟨ret_bool (by first | rfl | exact f3), hB⟩

set_option maxRecDepth 100000 in
set_option maxHeartbeats 2000000 in
theorem val_ok {A : Option Addr} {n c : Nat} {L : List Cn} (s : ByteArray) (hs : s.size ≤ 140737488351232) (hS : Fits L) (hn : L.length = n) (hc : n ≤ c) (w : World) (hp : Pool w w.heap.size A L) (hf : n ≤ 1100) (hE : chE L = 0) :
    Calls Tryd.prog 7 #[.slice A n c, .string s] w fun e w' => e = .returned (.bool true) ∧ Below w.heap.size w w' := by
  have HP := Lib.hid hp
  have HN := Lib.hid hn
  clear hp hn
  have hB : Below w.heap.size w w := Below.refl _ _
  have hN : n ≤ 100000 := by omega
  obtain ⟨hl, hv⟩ := ch_zero hE
  have hI := (ch_valid hl hv).1
  have HV := Lib.hid hv
  have hM : Fits (anL L 8 s) := by
    intro x hx
    have hmem : x ∈ L ∨ x = cu s ∨ x.s.size = 0 := by
      by_cases he : anE L 8 s = 0
      · have e1 : adE L (cu s) = 0 := by
          by_cases h1 : adE L (cu s) = 0
          · exact h1
          · exact absurd ((an_1 (t := 8) h1).2.2.symm.trans he) h1
        have e2 : adE (adL L (cu s)) (ct 8 (adI L (cu s)) 0) = 0 := by
          by_cases h2 : adE (adL L (cu s)) (ct 8 (adI L (cu s)) 0) = 0
          · exact h2
          · exact absurd ((an_2 e1 h2).2.2.symm.trans he) h2
        rw [(an_3 e1 e2).1] at hx
        rcases ad_mem hx with h | rfl
        · rcases ad_mem h with h | rfl
          · exact Or.inl h
          · exact Or.inr (Or.inl rfl)
        · exact Or.inr (Or.inr rfl)
      · by_cases h1 : adE L (cu s) = 0
        · by_cases h2 : adE (adL L (cu s)) (ct 8 (adI L (cu s)) 0) = 0
          · exact absurd (an_3 h1 h2).2.2 he
          · rw [(an_2 h1 h2).1] at hx; exact Or.inl hx
        · rw [(an_1 (t := 8) h1).1] at hx; exact Or.inl hx
    rcases hmem with h | rfl | h
    · exact hS x h
    · exact hs
    · omega
  have hT : (anE L 8 s != 0) = true ∨ ((anE L 8 s != 0) = false ∧ ((chE (anL L 8 s) == 0) == decide ((s.size : Int) ≤ 1024)) = true) := by
    cases he : (anE L 8 s != 0) with
    | true => exact Or.inl rfl
    | false =>
      refine Or.inr ⟨rfl, ?_⟩
      obtain ⟨k1, k2, k3⟩ := v_add hl hv (bneF he)
      by_cases h4 : s.size ≤ 1024
      · rw [(ch_valid k1 (k2 h4)).2, decide_eq_true (by omega)]; rfl
      · have : ¬ chE (anL L 8 s) = 0 := fun h => k3 h4 (ch_zero h).2
        rw [decide_eq_false (by omega), beqF this]; rfl
  have HT := Lib.hid hT
  clear hv hT hl
  go_enter Tryd.func7, Tryd.ntmps7
  go_wp2_with (first | (go_at_call 12; refine (few_yes hf _).mono ?_; rintro e w1 ⟨rfl, hb1⟩; obtain ⟨hc1, hf1⟩ := bcell hb1; have hz1 := hb1.size; (try simp only [World.size_alloc, World.size_setCell] at hz1); (try have hza : w.heap.size < w1.heap.size := by omega); (try have hzb : w.heap.size + 1 < w1.heap.size := by omega); (try have hzc : w.heap.size + 1 + 1 < w1.heap.size := by omega); (try have hzd : wa.heap.size < w1.heap.size := by omega); (try replace hR := (hb1.block w.heap.size (by first | exact lt_heap hR | (have := lt_heap hR; simp; omega))).trans (by first | with_reducible exact hR | with_reducible exact laid_old hR)); replace hB := below_on (w := w) ((by repeat (first | with_reducible exact hB | with_reducible exact Below.refl _ _ | with_reducible refine below_al ?_ _ | with_reducible refine below_st ?_ (by first | exact Nat.le_refl _ | exact Nat.le_add_right _ _ | (simp; omega)) _))) hb1; clear hb1) | (go_at_call 26; refine (check_any hS HN.out hN HP.out _ hB).mono ?_; rintro e w1 ⟨rfl, hb1⟩; replace hB := below_on (w := w) hB hb1; clear hb1))
  go_loopw [7] (fun i wr => ∃ k : Nat, k ≤ n ∧ i = .int .i64 ((k : Int) + 1) ∧ Below w.heap.size w wr) (fun i _ => n + 1 - (intOf i).toNat)
  case atStart => exact ⟨0, Nat.zero_le _, rfl, hB⟩
  case round =>
    obtain ⟨k, hk, rfl, hBr⟩ := hrel
    clear hB
    by_cases hlt : k < n
    · have hat : atE L ((k : Int) + 1) = 0 := by
        unfold atE; rw [if_pos]; have := HN.out; omega
      go_wp2_with (go_at_call 39; refine (asked_any _ hat HV.out HN.out hN HP.out _ hBr).mono ?_; rintro e w1 ⟨rfl, hb1⟩; replace hBr := below_on (w := w) hBr hb1; clear hb1)
      go_roundw
      case rel => exact ⟨k + 1, by omega, by go_num, hBr⟩
      case measure => simp [intOf]; omega
    · obtain rfl : k = n := by omega
      rcases HT.out with t1 | ⟨t1, t2⟩
      all_goals
        go_wp2_with (first | (go_at_call 34; (with_reducible refine Calls.mono (as_any s HN.out hN hc HP.out _ hBr) ?_); rintro e w1 ⟨A1, n1, m1, rfl, hl1, hm1, hp1, hb1⟩; have hN1 : n1 ≤ 100000 := hl1 ▸ an_len (HN.out ▸ hN); have HL1 := Lib.hid hl1; have HQ1 := Lib.hid hp1; replace hBr := below_on (w := w) hBr hb1; clear hl1 hp1 hb1) | (go_at_call 26; refine (check_any hM HL1.out hN1 HQ1.out _ (Below.refl _ _)).mono ?_; rintro e w2 ⟨rfl, hb2⟩; replace hBr := below_on (w := w) hBr hb2; clear hb2) | (go_at_call 13; refine (awake_any _).mono ?_; rintro e w3 ⟨rfl, hb3⟩; replace hBr := below_on (w := w) hBr hb3; clear hb3))
        go_ret
        exact ⟨ret_bool (by first | rfl | exact t2), hBr⟩

theorem val_law {A : Option Addr} {n c : Nat} {L : List Cn} (s : ByteArray) (hs : s.size ≤ 140737488351232) (hS : Fits L) (hn : L.length = n) (hc : n ≤ c) (w : World) (hp : Pool w w.heap.size A L) :
    Calls Tryd.prog 7 #[.slice A n c, .string s] w fun e w' => e = .returned (.bool true) ∧ Below w.heap.size w w' := by
  by_cases hf : n ≤ 1100
  · cases hE : (chE L != 0) with
    | true => exact val_bad s hs hS hn hc w hp hf hE
    | false => exact val_ok s hs hS hn hc w hp hf (bneF hE)
  · have hB : Below w.heap.size w w := Below.refl _ _
    go_enter Tryd.func7, Tryd.ntmps7
    go_wp2_with (first | (go_at_call 12; refine (few_no hf _).mono ?_; rintro e w1 ⟨rfl, hb1⟩; obtain ⟨hc1, hf1⟩ := bcell hb1; have hz1 := hb1.size; (try simp only [World.size_alloc, World.size_setCell] at hz1); (try have hza : w.heap.size < w1.heap.size := by omega); (try have hzb : w.heap.size + 1 < w1.heap.size := by omega); (try have hzc : w.heap.size + 1 + 1 < w1.heap.size := by omega); (try have hzd : wa.heap.size < w1.heap.size := by omega); (try replace hR := (hb1.block w.heap.size (by first | exact lt_heap hR | (have := lt_heap hR; simp; omega))).trans (by first | with_reducible exact hR | with_reducible exact laid_old hR)); replace hB := below_on (w := w) ((by repeat (first | with_reducible exact hB | with_reducible exact Below.refl _ _ | with_reducible refine below_al ?_ _ | with_reducible refine below_st ?_ (by first | exact Nat.le_refl _ | exact Nat.le_add_right _ _ | (simp; omega)) _))) hb1; clear hb1) | (go_at_call 13; refine (awake_any _).mono ?_; rintro e w1 ⟨rfl, hb1⟩; obtain ⟨hc1, hf1⟩ := bcell hb1; have hz1 := hb1.size; (try simp only [World.size_alloc, World.size_setCell] at hz1); (try have hza : w.heap.size < w1.heap.size := by omega); (try have hzb : w.heap.size + 1 < w1.heap.size := by omega); (try have hzc : w.heap.size + 1 + 1 < w1.heap.size := by omega); (try have hzd : wa.heap.size < w1.heap.size := by omega); (try replace hR := (hb1.block w.heap.size (by first | exact lt_heap hR | (have := lt_heap hR; simp; omega))).trans (by first | with_reducible exact hR | with_reducible exact laid_old hR)); replace hB := below_on (w := w) ((by repeat (first | with_reducible exact hB | with_reducible exact Below.refl _ _ | with_reducible refine below_al ?_ _ | with_reducible refine below_st ?_ (by first | exact Nat.le_refl _ | exact Nat.le_add_right _ _ | (simp; omega)) _))) hb1; clear hb1))
    go_ret
    exact ⟨rfl, hB⟩

end Go.Proofs.YtfcefeepkpkcmaaDoor
