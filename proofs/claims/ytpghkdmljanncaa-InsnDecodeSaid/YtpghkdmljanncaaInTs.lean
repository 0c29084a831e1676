/- Layer 8: the reference's take, the switches. -/
import Derived.Test.YtpghkdmljanncaaInTk
namespace Go.Proofs.Ytpghkdmljanncaa
open Go.ChangeShapes Go.WideShapes Go.ChangeAt Go.RowKit Go.PlainAid
set_option linter.unusedSimpArgs false
set_option linter.unusedVariables false

def boxN (op a t : Int) (K T : Value) : Obj := .cells #[.int .i64 op, .int .i64 a, .int .i64 0, .int .i64 t, K, T, .string ⟨#[]⟩, .string ⟨#[]⟩, .string ⟨#[]⟩, .string ⟨#[]⟩] 26
def zeroN : Obj := .cells #[.int .i64 0, .int .i64 0, .int .i64 0, .int .i64 0, .slice none 0 0, .slice none 0 0, .string ⟨#[]⟩, .string ⟨#[]⟩, .string ⟨#[]⟩, .string ⟨#[]⟩] 26
structure T6 (w wr : World) (op a t : Int) (f : Int → Int) (j : Nat) (A : Option Addr) (c : Nat) : Prop where
  box : wr.heap[w.heap.size + 1]? = some (boxN op a t (.slice none 0 0) (.slice A j c))
  res : wr.heap[w.heap.size]? = some zeroN
  own : wr.ownsRow w.heap.size 3 1 (.slice A j c) j (Ri (nuL f j))
  bel : Below w.heap.size w wr

theorem box_keep {W w4 : World} {B e n bx t : Nat} {v : Value} {xs : List Value} {cs : Array Value} {fr : Nat × Nat} (hg : W.grownBy w4 v.ownBlock) (hx : W.heap[bx]? = some (.cells cs t fr)) (ho : W.ownsRow B e 1 v n xs) (hne : t ≠ e) : w4.heap[bx]? = some (.cells cs t fr) :=
  (hg.block _ (lt_heap hx) (fun e => own_not ho hx hne e.symm)).trans hx
theorem frozenT {W : World} {B : Nat} {cs : Array Value} {t : TypeId} (h : W.heap[B]? = some (.cells cs t)) (j : Nat) : W.frozen? ⟨B, j, none⟩ = false := by simp [World.frozen?, h]
theorem neNI : 26 ≠ 3 := by decide
theorem T6.step {w wr W w4 : World} {op a t x : Int} {f : Int → Int} {j : Nat} {A A' : Option Addr} {c c' : Nat} (hg : W.grownBy w4 (Value.slice A j c).ownBlock) (I : T6 w wr op a t f j A c) (hW : ∀ (k : Nat) (o : Obj), wr.heap[k]? = some o → W.heap[k]? = some o) (hbW : Below w.heap.size w W) (hoW : W.ownsRow w.heap.size 3 1 (.slice A j c) j (Ri (nuL f j)))
    (ho : w4.ownsRow w.heap.size 3 1 (.slice A' (j + 1) c') (j + 1) (Ri (nuL f j ++ [x]))) (hx : f j = x) :
    T6 w (w4.setCell ⟨w.heap.size + 1, 5, none⟩ (.slice A' (j + 1) c')) op a t f (j + 1) A' c' := by
  have hb4 := box_keep hg (hW _ _ I.box) hoW neNI
  have hr4 := box_keep hg (hW _ _ I.res) hoW neNI
  have h1 := heap_setCell_same w4 (w.heap.size + 1) 5 _ _ (.slice A' (j + 1) c') hb4
  refine ⟨h1, (heap_setCell_other w4 ⟨w.heap.size + 1, 5, none⟩ w.heap.size _ (by show w.heap.size ≠ w.heap.size + 1; omega)).trans hr4, ?_, below_st (p := ⟨w.heap.size + 1, 5, none⟩) (grown_own hbW hoW hg) (Nat.le_add_right _ _) _⟩
  rw [nuL_succ, hx]
  exact ho.kept grown_set (Or.inr (fun e => own_not ho hb4 neNI e))
theorem heap_set {W : World} {B j : Nat} {cs cs' : Array Value} {t : TypeId} {u : Value} (h : W.heap[B]? = some (.cells cs t)) (hc : cs.setIfInBounds j u = cs') : (W.setCell ⟨B, j, none⟩ u).heap[B]? = some (.cells cs' t) := by
  rw [← hc]
  exact heap_setCell_same W B j cs t u h
theorem ten_set {W : World} {B : Nat} {t : TypeId} {z0 z1 z2 z3 z4 z5 z6 z7 z8 z9 : Value} (v0 v1 v2 v3 v4 v5 v6 v7 v8 v9 : Value) (h : W.heap[B]? = some (.cells #[z0, z1, z2, z3, z4, z5, z6, z7, z8, z9] t)) :
    ((((((((((W.setCell ⟨B, 0, none⟩ v0).setCell ⟨B, 1, none⟩ v1).setCell ⟨B, 2, none⟩ v2).setCell ⟨B, 3, none⟩ v3).setCell ⟨B, 4, none⟩ v4).setCell ⟨B, 5, none⟩ v5).setCell ⟨B, 6, none⟩ v6).setCell ⟨B, 7, none⟩ v7).setCell ⟨B, 8, none⟩ v8).setCell ⟨B, 9, none⟩ v9).heap[B]? = some (.cells #[v0, v1, v2, v3, v4, v5, v6, v7, v8, v9] t) ∧ W.grownBy ((((((((((W.setCell ⟨B, 0, none⟩ v0).setCell ⟨B, 1, none⟩ v1).setCell ⟨B, 2, none⟩ v2).setCell ⟨B, 3, none⟩ v3).setCell ⟨B, 4, none⟩ v4).setCell ⟨B, 5, none⟩ v5).setCell ⟨B, 6, none⟩ v6).setCell ⟨B, 7, none⟩ v7).setCell ⟨B, 8, none⟩ v8).setCell ⟨B, 9, none⟩ v9) (some B) := by
  have h0 := heap_set (j := 0) (u := v0) (cs' := #[v0, z1, z2, z3, z4, z5, z6, z7, z8, z9]) h rfl
  have h1 := heap_set (j := 1) (u := v1) (cs' := #[v0, v1, z2, z3, z4, z5, z6, z7, z8, z9]) h0 rfl
  have h2 := heap_set (j := 2) (u := v2) (cs' := #[v0, v1, v2, z3, z4, z5, z6, z7, z8, z9]) h1 rfl
  have h3 := heap_set (j := 3) (u := v3) (cs' := #[v0, v1, v2, v3, z4, z5, z6, z7, z8, z9]) h2 rfl
  have h4 := heap_set (j := 4) (u := v4) (cs' := #[v0, v1, v2, v3, v4, z5, z6, z7, z8, z9]) h3 rfl
  have h5 := heap_set (j := 5) (u := v5) (cs' := #[v0, v1, v2, v3, v4, v5, z6, z7, z8, z9]) h4 rfl
  have h6 := heap_set (j := 6) (u := v6) (cs' := #[v0, v1, v2, v3, v4, v5, v6, z7, z8, z9]) h5 rfl
  have h7 := heap_set (j := 7) (u := v7) (cs' := #[v0, v1, v2, v3, v4, v5, v6, v7, z8, z9]) h6 rfl
  have h8 := heap_set (j := 8) (u := v8) (cs' := #[v0, v1, v2, v3, v4, v5, v6, v7, v8, z9]) h7 rfl
  have h9 := heap_set (j := 9) (u := v9) (cs' := #[v0, v1, v2, v3, v4, v5, v6, v7, v8, v9]) h8 rfl
  exact ⟨h9, (grown_trans (grown_trans (grown_trans (grown_trans (grown_trans (grown_trans (grown_trans (grown_trans (grown_trans grown_set grown_set) grown_set) grown_set) grown_set) grown_set) grown_set) grown_set) grown_set) grown_set)⟩
theorem tk_6 {w wr w' : World} {s : ByteArray} {p op a t : Int} {f : Int → Int} {n : Nat} {A : Option Addr} {c : Nat} (I : T6 w wr op a t f n A c) (hT : tkC s p op = ⟨op, a, 0, t, [], nuL f n⟩) (hg : wr.grownBy w' (some w.heap.size)) :
    TkRet w s p op (.returned (.agg #[.int .i64 op, .int .i64 a, .int .i64 0, .int .i64 t, .slice none 0 0, .slice A n c, .string ⟨#[]⟩, .string ⟨#[]⟩, .string ⟨#[]⟩, .string ⟨#[]⟩])) w' := by
  have hnn : A = none → c = 0 := by
    obtain ⟨A2, c2, hv, _, _, h⟩ := own_form I.own
    injection hv with h1 h2 h3
    subst h1 h3
    exact h
  exact ⟨⟨op, a, 0, t, none, 0, 0, [], A, n, c, nuL f n, ⟨#[]⟩, ⟨#[]⟩, ⟨#[]⟩, ⟨#[]⟩⟩, rfl, by rw [hT]; rfl, ⟨⟨rfl, rfl, rfl, rfl⟩, ⟨fun _ => rfl, hnn⟩, World.ownsRow_nil _ _ _ _, I.own.kept hg (Or.inr (fun e => own_not I.own I.res neNI e)), Or.inl rfl⟩, I.bel.trans (grown_below hg (fun k hk => by injection hk with hk; omega) I.bel.size)⟩
set_option maxRecDepth 100000 in
set_option maxHeartbeats 2000000 in
theorem take8_6 (s : ByteArray) (p op : Int) (hs : s.size ≤ 1000000) (h0 : 0 ≤ p) (h1 : p ≤ s.size) (hk : kindV op = 6) (w : World) : Calls Try.prog 67 #[.string s, .int .i64 p, .int .i64 op] w (TkRet w s p op) := by
  have HT := Lib.hid (show tkC s p op = ⟨op, sigV s (p + 3) 4, 0, unsV s (p + 1) 2, [], nuL (fun k => unsV s (p + 9 + 2 * k) 2) (unsV s (p + 7) 2).toNat⟩ by unfold tkC; rw [hk]; rfl)
  have HK := Lib.hid hk
  have hB : Below w.heap.size w w := Below.refl _ _
  have hw1 : IntKind.i64.wrap (p + 1) = p + 1 := by simp [IntKind.wrap, IntKind.bits, IntKind.signed]; omega
  have hw3 : IntKind.i64.wrap (p + 3) = p + 3 := by simp [IntKind.wrap, IntKind.bits, IntKind.signed]; omega
  have hw7 : IntKind.i64.wrap (p + 7) = p + 7 := by simp [IntKind.wrap, IntKind.bits, IntKind.signed]; omega
  have hw9 : IntKind.i64.wrap (p + 9) = p + 9 := by simp [IntKind.wrap, IntKind.bits, IntKind.signed]; omega
  have hu := uns2_nn s (p + 7)
  obtain ⟨a, ha⟩ : ∃ a, sigV s (p + 3) 4 = a := ⟨_, rfl⟩
  obtain ⟨t, ht⟩ : ∃ t, unsV s (p + 1) 2 = t := ⟨_, rfl⟩
  obtain ⟨n, hn⟩ : ∃ n : Nat, unsV s (p + 7) 2 = (n : Int) := ⟨(unsV s (p + 7) 2).toNat, by omega⟩
  rw [ha, ht, hn, Int.toNat_natCast] at HT
  rw [hn] at hu
  have HATN := Lib.hid (And.intro ha (And.intro ht hn))
  clear hk ha ht hn
  go_enter Try.func67, Try.ntmps67
  go_upto_region 19 with (first | (go_at_call 51; refine (rkind_any _ _).mono ?_; rintro e w' ⟨rfl, rfl⟩; rw [HK.out]) | (go_at_call 95; refine (get_any s _ _ hs _).mono ?_; rintro e w' ⟨rfl, rfl⟩; first | rw [HATN.out.2.1] | rw [HATN.out.2.2]) | (go_at_call 94; refine (sgd_any s _ _ hs _).mono ?_; rintro e w' ⟨rfl, rfl⟩; rw [HATN.out.1]))
  have hX : ((w.alloc zeroN).alloc (boxN op a t (.slice none 0 0) (.slice none 0 0))).heap[w.heap.size + 1]? = some (boxN op a t (.slice none 0 0) (.slice none 0 0)) := new_at (by simp)
  have hY : ((w.alloc zeroN).alloc (boxN op a t (.slice none 0 0) (.slice none 0 0))).heap[w.heap.size]? = some zeroN := laid_old (World.alloc_heap_new w zeroN)
  have I0 : T6 w ((w.alloc zeroN).alloc (boxN op a t (.slice none 0 0) (.slice none 0 0))) op a t (fun k => unsV s (p + 9 + 2 * k) 2) 0 none 0 := ⟨hX, hY, World.ownsRow_nil _ _ _ _, below_al (below_al hB _) _⟩
  unfold boxN zeroN at I0
  have HI0 := Lib.hid I0
  clear I0 hX hY
  go_loopw [9] (fun v wr => ∃ (j : Nat) (A : Option Addr) (c : Nat), j ≤ n ∧ v = .int .i64 j ∧ T6 w wr op a t (fun k => unsV s (p + 9 + 2 * k) 2) j A c) (fun v _ => n - (intOf v).toNat)
  case atStart => exact ⟨0, none, 0, Nat.zero_le _, rfl, HI0.out⟩
  case round =>
    clear HI0
    obtain ⟨j, A, c, hj, rfl, I⟩ := hrel
    have HI := Lib.hid I
    have hbx := I.box
    unfold boxN at hbx
    obtain ⟨b0, b1, b2, b3, b4, b5, b6, b7, b8, b9⟩ := ten_cells hbx
    have f5 : wr.frozen? ⟨w.heap.size + 1, 5, none⟩ = false := by simp [World.frozen?, hbx]
    have hbz := lt_heap hbx
    have HBX := Lib.hid hbx
    clear I hbx
    by_cases hlt : j < n
    · have hm1 : IntKind.i64.wrap (2 * (j : Int)) = 2 * j := by simp [IntKind.wrap, IntKind.bits, IntKind.signed]; omega
      have hm2 : IntKind.i64.wrap (p + 9 + 2 * (j : Int)) = p + 9 + 2 * j := by simp [IntKind.wrap, IntKind.bits, IntKind.signed]; omega
      have HG := Lib.hid (fun w => get_any s (p + 9 + 2 * j) 2 hs w)
      obtain ⟨x, hx⟩ : ∃ x, unsV s (p + 9 + 2 * j) 2 = x := ⟨_, rfl⟩
      rw [hx] at HG
      have HX := Lib.hid hx
      clear hx
      go_wp2
      go_region_law (first | (go_simp; go_at_call 95; refine (HG.out _).mono ?_; rintro e w' ⟨rfl, rfl⟩) | (refine step_append_ints (by rfl) _ _ (by rfl) w.heap.size j 1 1 (nuL (fun k => unsV s (p + 9 + 2 * k) 2) j) [x] _ _ (by rfl) (HI.out.own.alloc _) (by rfl) (Row.one (ten_cell0 (new_at (by simp; done))) (by simp; done)) rfl (by omega) (by have := HI.out.bel.size; simp; omega) ?_; intro v' w4 ho hg; obtain ⟨A', c', rfl, _, _, _⟩ := own_form ho; have hb4 := box_keep hg (laid_old HBX.out) (HI.out.own.alloc _) neNI; obtain ⟨k0, k1, k2, k3, k4, k5, k6, k7, k8, k9⟩ := ten_cells hb4; have g5 := frozenT hb4 5))
      all_goals go_wp2
      all_goals go_roundw
      case' rel => exact ⟨j + 1, A', c', hlt, by go_num, T6.step hg HI.out (fun k o h => laid_old h) (by first | exact (below_al HI.out.bel _).drew | exact below_al HI.out.bel _ | exact below_al HI.out.bel.drew _) (HI.out.own.alloc _) ho HX.out⟩
      all_goals first | (exact ⟨j + 1, A', c', hlt, by go_num, T6.step hg HI.out (fun k o h => laid_old h) (by first | exact (below_al HI.out.bel _).drew | exact below_al HI.out.bel _ | exact below_al HI.out.bel.drew _) (HI.out.own.alloc _) ho HX.out⟩) | (simp [intOf]; omega)
    · obtain ⟨rfl⟩ : n = j := by omega
      have hr := HI.out.res
      unfold zeroN at hr
      obtain ⟨z0, z1, z2, z3, z4, z5, z6, z7, z8, z9⟩ := ten_cells hr
      have zf := frozenT hr
      have zr := lt_heap hr
      clear hr
      have HTS := Lib.hid (ten_set (W := wr) (.int .i64 op) (.int .i64 a) (.int .i64 0) (.int .i64 t) (.slice none 0 0) (.slice A n c) (.string ⟨#[]⟩) (.string ⟨#[]⟩) (.string ⟨#[]⟩) (.string ⟨#[]⟩) HI.out.res)
      go_wp2
      generalize hW5 : ((((((((((wr.setCell ⟨w.heap.size, 0, none⟩ (.int .i64 op)).setCell ⟨w.heap.size, 1, none⟩ (.int .i64 a)).setCell ⟨w.heap.size, 2, none⟩ (.int .i64 0)).setCell ⟨w.heap.size, 3, none⟩ (.int .i64 t)).setCell ⟨w.heap.size, 4, none⟩ (.slice none 0 0)).setCell ⟨w.heap.size, 5, none⟩ (.slice A n c)).setCell ⟨w.heap.size, 6, none⟩ (.string ⟨#[]⟩)).setCell ⟨w.heap.size, 7, none⟩ (.string ⟨#[]⟩)).setCell ⟨w.heap.size, 8, none⟩ (.string ⟨#[]⟩)).setCell ⟨w.heap.size, 9, none⟩ (.string ⟨#[]⟩)) = W5 at HTS ⊢
      clear hW5
      obtain ⟨q0, q1, q2, q3, q4, q5, q6, q7, q8, q9⟩ := ten_cells HTS.out.1
      refine bodyPost_ret (v := .agg #[.int .i64 op, .int .i64 a, .int .i64 0, .int .i64 t, .slice none 0 0, .slice A n c, .string ⟨#[]⟩, .string ⟨#[]⟩, .string ⟨#[]⟩, .string ⟨#[]⟩]) ?_ rfl (tk_6 HI.out HT.out HTS.out.2)
      simp [results, Try.f67, go_sem, *]


end Go.Proofs.Ytpghkdmljanncaa
