/- Layer 8: the reference's take, LookupSwitch. -/
import Derived.Test.YtpghkdmljanncaaInTs
import Derived.Test.YtpghkdmljanncaaInApp
namespace Go.Proofs.Ytpghkdmljanncaa
open Go.ChangeShapes Go.WideShapes Go.ChangeAt Go.RowKit Go.PlainAid
set_option linter.unusedSimpArgs false
set_option linter.unusedVariables false

structure T7 (w wr : World) (op a t : Int) (f h : Int → Int) (j i : Nat) (A : Option Addr) (c : Nat) (A2 : Option Addr) (c2 : Nat) : Prop where
  box : wr.heap[w.heap.size + 1]? = some (boxN op a t (.slice A j c) (.slice A2 i c2))
  res : wr.heap[w.heap.size]? = some zeroN
  ko : wr.ownsRow w.heap.size 3 1 (.slice A j c) j (Ri (nuL f j))
  to : wr.ownsRow w.heap.size 3 1 (.slice A2 i c2) i (Ri (nuL h i))
  ap : Apt (.slice A j c) (.slice A2 i c2)
  bel : Below w.heap.size w wr
theorem T7.keys {w wr W w4 : World} {op a t x : Int} {f h : Int → Int} {j i : Nat} {A A' A2 : Option Addr} {c c' c2 : Nat} (hg : W.grownBy w4 (Value.slice A j c).ownBlock) (I : T7 w wr op a t f h j i A c A2 c2) (hW : ∀ (k : Nat) (o : Obj), wr.heap[k]? = some o → W.heap[k]? = some o) (hbW : Below w.heap.size w W)
    (hoW : W.ownsRow w.heap.size 3 1 (.slice A j c) j (Ri (nuL f j))) (htW : W.ownsRow w.heap.size 3 1 (.slice A2 i c2) i (Ri (nuL h i)))
    (ho : w4.ownsRow w.heap.size 3 1 (.slice A' (j + 1) c') (j + 1) (Ri (nuL f j ++ [x]))) (hl : Lies W (.slice A j c) (.slice A' (j + 1) c')) (hx : f j = x) :
    T7 w (w4.setCell ⟨w.heap.size + 1, 4, none⟩ (.slice A' (j + 1) c')) op a t f h (j + 1) i A' c' A2 c2 := by
  have hb4 := box_keep hg (hW _ _ I.box) hoW neNI
  have hr4 := box_keep hg (hW _ _ I.res) hoW neNI
  have h1 := heap_setCell_same w4 (w.heap.size + 1) 4 _ _ (.slice A' (j + 1) c') hb4
  have ht4 := I.ap.kept htW hg
  refine ⟨h1, (heap_setCell_other w4 ⟨w.heap.size + 1, 4, none⟩ w.heap.size _ (by show w.heap.size ≠ w.heap.size + 1; omega)).trans hr4, ?_, ht4.kept grown_set (Or.inr (fun e => own_not ht4 hb4 neNI e)), I.ap.grow htW hl, below_st (p := ⟨w.heap.size + 1, 4, none⟩) (grown_own hbW hoW hg) (Nat.le_add_right _ _) _⟩
  rw [nuL_succ, hx]
  exact ho.kept grown_set (Or.inr (fun e => own_not ho hb4 neNI e))
theorem T7.targets {w wr W w4 : World} {op a t x : Int} {f h : Int → Int} {j i : Nat} {A A' A2 : Option Addr} {c c' c2 : Nat} (hg : W.grownBy w4 (Value.slice A2 i c2).ownBlock) (I : T7 w wr op a t f h j i A c A2 c2) (hW : ∀ (k : Nat) (o : Obj), wr.heap[k]? = some o → W.heap[k]? = some o) (hbW : Below w.heap.size w W)
    (hoW : W.ownsRow w.heap.size 3 1 (.slice A j c) j (Ri (nuL f j))) (htW : W.ownsRow w.heap.size 3 1 (.slice A2 i c2) i (Ri (nuL h i)))
    (ho : w4.ownsRow w.heap.size 3 1 (.slice A' (i + 1) c') (i + 1) (Ri (nuL h i ++ [x]))) (hl : Lies W (.slice A2 i c2) (.slice A' (i + 1) c')) (hx : h i = x) :
    T7 w (w4.setCell ⟨w.heap.size + 1, 5, none⟩ (.slice A' (i + 1) c')) op a t f h j (i + 1) A c A' c' := by
  have hb4 := box_keep hg (hW _ _ I.box) htW neNI
  have hr4 := box_keep hg (hW _ _ I.res) htW neNI
  have h1 := heap_setCell_same w4 (w.heap.size + 1) 5 _ _ (.slice A' (i + 1) c') hb4
  have hk4 := I.ap.keptR hoW hg
  refine ⟨h1, (heap_setCell_other w4 ⟨w.heap.size + 1, 5, none⟩ w.heap.size _ (by show w.heap.size ≠ w.heap.size + 1; omega)).trans hr4, hk4.kept grown_set (Or.inr (fun e => own_not hk4 hb4 neNI e)), ?_, I.ap.growR hoW hl, below_st (p := ⟨w.heap.size + 1, 5, none⟩) (grown_own hbW htW hg) (Nat.le_add_right _ _) _⟩
  rw [nuL_succ, hx]
  exact ho.kept grown_set (Or.inr (fun e => own_not ho hb4 neNI e))
theorem tk_7 {w wr w' : World} {s : ByteArray} {p op t : Int} {f h : Int → Int} {n : Nat} {A A2 : Option Addr} {c c2 : Nat} (I : T7 w wr op 0 t f h n n A c A2 c2) (hT : tkC s p op = ⟨op, 0, 0, t, nuL f n, nuL h n⟩) (hg : wr.grownBy w' (some w.heap.size)) :
    TkRet w s p op (.returned (.agg #[.int .i64 op, .int .i64 0, .int .i64 0, .int .i64 t, .slice A n c, .slice A2 n c2, .string ⟨#[]⟩, .string ⟨#[]⟩, .string ⟨#[]⟩, .string ⟨#[]⟩])) w' := by
  have nz : ∀ {A : Option Addr} {c : Nat} {M : List Int}, wr.ownsRow w.heap.size 3 1 (.slice A n c) n (Ri M) → (A = none → c = 0) := by
    intro A c M ho
    obtain ⟨A2, c2, hv, _, _, h⟩ := own_form ho
    injection hv with h1 h2 h3
    subst h1 h3
    exact h
  exact ⟨⟨op, 0, 0, t, A, n, c, nuL f n, A2, n, c2, nuL h n, ⟨#[]⟩, ⟨#[]⟩, ⟨#[]⟩, ⟨#[]⟩⟩, rfl, by rw [hT]; rfl, ⟨⟨rfl, rfl, rfl, rfl⟩, ⟨nz I.ko, nz I.to⟩, I.ko.kept hg (Or.inr (fun e => own_not I.ko I.res neNI e)), I.to.kept hg (Or.inr (fun e => own_not I.to I.res neNI e)), I.ap⟩, I.bel.trans (grown_below hg (fun k hk => by injection hk with hk; omega) I.bel.size)⟩

set_option maxRecDepth 100000 in
set_option maxHeartbeats 4000000 in
theorem take8_7 (s : ByteArray) (p op : Int) (hs : s.size ≤ 1000000) (h0 : 0 ≤ p) (h1 : p ≤ s.size) (hk : kindV op = 7) (w : World) : Calls Try.prog 67 #[.string s, .int .i64 p, .int .i64 op] w (TkRet w s p op) := by
  have HT := Lib.hid (show tkC s p op = ⟨op, 0, 0, unsV s (p + 1) 2, nuL (fun k => sigV s (p + 5 + 6 * k) 4) (unsV s (p + 3) 2).toNat, nuL (fun k => unsV s (p + 9 + 6 * k) 2) (unsV s (p + 3) 2).toNat⟩ by unfold tkC; rw [hk]; rfl)
  have HK := Lib.hid hk
  have hB : Below w.heap.size w w := Below.refl _ _
  have hw1 : IntKind.i64.wrap (p + 1) = p + 1 := by simp [IntKind.wrap, IntKind.bits, IntKind.signed]; omega
  have hw3 : IntKind.i64.wrap (p + 3) = p + 3 := by simp [IntKind.wrap, IntKind.bits, IntKind.signed]; omega
  have hw5 : IntKind.i64.wrap (p + 5) = p + 5 := by simp [IntKind.wrap, IntKind.bits, IntKind.signed]; omega
  have hw9 : IntKind.i64.wrap (p + 9) = p + 9 := by simp [IntKind.wrap, IntKind.bits, IntKind.signed]; omega
  have hu := uns2_nn s (p + 3)
  obtain ⟨t, ht⟩ : ∃ t, unsV s (p + 1) 2 = t := ⟨_, rfl⟩
  obtain ⟨n, hn⟩ : ∃ n : Nat, unsV s (p + 3) 2 = (n : Int) := ⟨(unsV s (p + 3) 2).toNat, by omega⟩
  rw [ht, hn, Int.toNat_natCast] at HT
  rw [hn] at hu
  have HATN := Lib.hid (And.intro ht hn)
  clear hk ht hn
  go_enter Try.func67, Try.ntmps67
  go_upto_region 26 with (first | (go_at_call 51; refine (rkind_any _ _).mono ?_; rintro e w' ⟨rfl, rfl⟩; rw [HK.out]) | (go_at_call 95; refine (get_any s _ _ hs _).mono ?_; rintro e w' ⟨rfl, rfl⟩; first | rw [HATN.out.1] | rw [HATN.out.2]))
  have hX : ((w.alloc zeroN).alloc (boxN op 0 t (.slice none 0 0) (.slice none 0 0))).heap[w.heap.size + 1]? = some (boxN op 0 t (.slice none 0 0) (.slice none 0 0)) := new_at (by simp)
  have hY : ((w.alloc zeroN).alloc (boxN op 0 t (.slice none 0 0) (.slice none 0 0))).heap[w.heap.size]? = some zeroN := laid_old (World.alloc_heap_new w zeroN)
  have I0 : T7 w ((w.alloc zeroN).alloc (boxN op 0 t (.slice none 0 0) (.slice none 0 0))) op 0 t (fun k => sigV s (p + 5 + 6 * k) 4) (fun k => unsV s (p + 9 + 6 * k) 2) 0 0 none 0 none 0 := ⟨hX, hY, World.ownsRow_nil _ _ _ _, World.ownsRow_nil _ _ _ _, Or.inl rfl, below_al (below_al hB _) _⟩
  unfold boxN zeroN at I0
  have HI0 := Lib.hid I0
  clear I0 hX hY
  go_loopw [11] (fun v wr => ∃ (j : Nat) (A : Option Addr) (c : Nat) (A2 : Option Addr) (c2 : Nat), j ≤ n ∧ v = .int .i64 j ∧ T7 w wr op 0 t (fun k => sigV s (p + 5 + 6 * k) 4) (fun k => unsV s (p + 9 + 6 * k) 2) j j A c A2 c2) (fun v _ => n - (intOf v).toNat)
  case atStart => exact ⟨0, none, 0, none, 0, Nat.zero_le _, rfl, HI0.out⟩
  case round =>
    clear HI0
    obtain ⟨j, A, c, A2, c2, hj, rfl, I⟩ := hrel
    have HI := Lib.hid I
    have hbx := I.box
    unfold boxN at hbx
    obtain ⟨b0, b1, b2, b3, b4, b5, b6, b7, b8, b9⟩ := ten_cells hbx
    have f4 := frozenT hbx 4
    have hbz := lt_heap hbx
    have HBX := Lib.hid hbx
    clear I hbx
    by_cases hlt : j < n
    · have hm1 : IntKind.i64.wrap (6 * (j : Int)) = 6 * j := by simp [IntKind.wrap, IntKind.bits, IntKind.signed]; omega
      have hm2 : IntKind.i64.wrap (p + 5 + 6 * (j : Int)) = p + 5 + 6 * j := by simp [IntKind.wrap, IntKind.bits, IntKind.signed]; omega
      have hm3 : IntKind.i64.wrap (p + 9 + 6 * (j : Int)) = p + 9 + 6 * j := by simp [IntKind.wrap, IntKind.bits, IntKind.signed]; omega
      have HS := Lib.hid (fun w => sgd_any s (p + 5 + 6 * j) 4 hs w)
      have HG := Lib.hid (fun w => get_any s (p + 9 + 6 * j) 2 hs w)
      obtain ⟨x, hx⟩ : ∃ x, sigV s (p + 5 + 6 * j) 4 = x := ⟨_, rfl⟩
      obtain ⟨y, hy⟩ : ∃ y, unsV s (p + 9 + 6 * j) 2 = y := ⟨_, rfl⟩
      rw [hx] at HS
      rw [hy] at HG
      have HX := Lib.hid hx
      have HY := Lib.hid hy
      clear hx hy
      go_wp2
      go_region_law (first | (go_simp; go_at_call 94; refine (HS.out _).mono ?_; rintro e w' ⟨rfl, rfl⟩) | (refine step_append_lies_ints (by rfl) _ _ (by rfl) w.heap.size j 1 (nuL (fun k => sigV s (p + 5 + 6 * k) 4) j) x _ _ (by rfl) (HI.out.ko.alloc _) (by rfl) (Row.one (ten_cell0 (new_at (by simp; done))) (by simp; done)) (by omega) (by have := HI.out.bel.size; simp; omega) ?_; intro A' c' w4 ho hg hl; have hb4 := box_keep hg (laid_old HBX.out) (HI.out.ko.alloc _) neNI; obtain ⟨k0, k1, k2, k3, k4, k5, k6, k7, k8, k9⟩ := ten_cells hb4; have g4 := frozenT hb4 4))
      all_goals
        have I2 := T7.keys hg HI.out (fun k o h => laid_old h) (by first | exact (below_al HI.out.bel _).drew | exact below_al HI.out.bel _ | exact below_al HI.out.bel.drew _) (HI.out.ko.alloc _) (HI.out.to.alloc _) ho hl HX.out
        clear b0 b1 b2 b3 b4 b5 b6 b7 b8 b9 f4 hbz HBX hb4 k0 k1 k2 k3 k4 k5 k6 k7 k8 k9 g4 ho hg hl HI
        have HI := Lib.hid I2
        generalize w4.setCell ⟨w.heap.size + 1, 4, none⟩ (.slice A' (j + 1) c') = W6 at I2 HI ⊢
        have hbx := I2.box
        unfold boxN at hbx
        obtain ⟨b0, b1, b2, b3, b4, b5, b6, b7, b8, b9⟩ := ten_cells hbx
        have f5 := frozenT hbx 5
        have hbz := lt_heap hbx
        have HBX := Lib.hid hbx
        clear I2 hbx
        go_wp2
        go_region_law (first | (go_simp; go_at_call 95; refine (HG.out _).mono ?_; rintro e w' ⟨rfl, rfl⟩) | (refine step_append_lies_ints (by rfl) _ _ (by rfl) w.heap.size j 1 (nuL (fun k => unsV s (p + 9 + 6 * k) 2) j) y _ _ (by rfl) (HI.out.to.alloc _) (by rfl) (Row.one (ten_cell0 (new_at (by simp; done))) (by simp; done)) (by omega) (by have := HI.out.bel.size; simp; omega) ?_; intro A3 c3 w7 ho3 hg3 hl3; have hb7 := box_keep hg3 (laid_old HBX.out) (HI.out.to.alloc _) neNI; obtain ⟨k0, k1, k2, k3, k4, k5, k6, k7, k8, k9⟩ := ten_cells hb7; have g5 := frozenT hb7 5))
        all_goals go_wp2
        all_goals go_roundw
        all_goals first | (exact ⟨j + 1, A', c', A3, c3, hlt, by go_num, T7.targets hg3 HI.out (fun k o h => laid_old h) (by first | exact (below_al HI.out.bel _).drew | exact below_al HI.out.bel _ | exact below_al HI.out.bel.drew _) (HI.out.ko.alloc _) (HI.out.to.alloc _) ho3 hl3 HY.out⟩) | (simp [intOf]; omega)
    · obtain ⟨rfl⟩ : n = j := by omega
      have hr := HI.out.res
      unfold zeroN at hr
      obtain ⟨z0, z1, z2, z3, z4, z5, z6, z7, z8, z9⟩ := ten_cells hr
      have zf := frozenT hr
      have zr := lt_heap hr
      clear hr
      have HTS := Lib.hid (ten_set (W := wr) (.int .i64 op) (.int .i64 0) (.int .i64 0) (.int .i64 t) (.slice A n c) (.slice A2 n c2) (.string ⟨#[]⟩) (.string ⟨#[]⟩) (.string ⟨#[]⟩) (.string ⟨#[]⟩) HI.out.res)
      go_wp2
      generalize hW5 : ((((((((((wr.setCell ⟨w.heap.size, 0, none⟩ (.int .i64 op)).setCell ⟨w.heap.size, 1, none⟩ (.int .i64 0)).setCell ⟨w.heap.size, 2, none⟩ (.int .i64 0)).setCell ⟨w.heap.size, 3, none⟩ (.int .i64 t)).setCell ⟨w.heap.size, 4, none⟩ (.slice A n c)).setCell ⟨w.heap.size, 5, none⟩ (.slice A2 n c2)).setCell ⟨w.heap.size, 6, none⟩ (.string ⟨#[]⟩)).setCell ⟨w.heap.size, 7, none⟩ (.string ⟨#[]⟩)).setCell ⟨w.heap.size, 8, none⟩ (.string ⟨#[]⟩)).setCell ⟨w.heap.size, 9, none⟩ (.string ⟨#[]⟩)) = W5 at HTS ⊢
      clear hW5
      obtain ⟨q0, q1, q2, q3, q4, q5, q6, q7, q8, q9⟩ := ten_cells HTS.out.1
      refine bodyPost_ret (v := .agg #[.int .i64 op, .int .i64 0, .int .i64 0, .int .i64 t, .slice A n c, .slice A2 n c2, .string ⟨#[]⟩, .string ⟨#[]⟩, .string ⟨#[]⟩, .string ⟨#[]⟩]) ?_ rfl (tk_7 HI.out HT.out HTS.out.2)
      simp [results, Try.f67, go_sem, *]

end Go.Proofs.Ytpghkdmljanncaa
