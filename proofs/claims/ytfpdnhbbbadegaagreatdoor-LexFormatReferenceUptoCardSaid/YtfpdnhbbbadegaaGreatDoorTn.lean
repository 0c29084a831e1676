/- Layer 53, the reference: Join. -/
import Derived.Test.YtfpdnhbbbadegaaGreatDoorTm
import Derived.Test.YtfpdnhbbbadegaaGreatDoorYu
import Derived.Lib.AppendStr
namespace Go.Proofs.YtfpdnhbbbadegaaGreatDoor
open Go.ChangeShapes Go.WideShapes Go.ChangeAt Go.RowKit Go.PlainAid
set_option linter.unusedSimpArgs false
set_option linter.unusedVariables false

theorem fl_uF (l : List UInt8) : fl uF l = l.map fun b => Value.int .u8 (b.toNat : Int) := by
  induction l with
  | nil => rfl
  | cons c r ih => rw [fl_cons, ih]; rfl
theorem append_strU {w : World} {ops : Array Oper} {rest : List Oper} {o : Oper} {a : Act} {Q : Exit → Act → World → Prop} (hg : o.guard = none) (s x : Operand)
    (hop : o.op = Op.call { callee := Callee.builtin Builtin.append, args := #[s, x], argTypes := #[47, 9] }) (M : List UInt8)
    {base n c : Nat} {A : Option Addr} {L : List UInt8} (hs : a.eval s = .slice A n c) (hO : OwnR uF 1 5 w base A n c L) (hx : a.eval x = .string (bsB M))
    (hb : n + M.length ≤ 140737488355328) (hbase : base ≤ w.heap.size)
    (h : ∀ A' c' w', OwnR uF 1 5 w' base A' (n + M.length) c' (L ++ M) → Below base w w' → wpList Tryz.prog ops Q rest (a.put o.dst (.slice A' (n + M.length) c')) w') : wpList Tryz.prog ops Q (o :: rest) a w := by
  obtain ⟨i0, hi0, hz0, hz1, hz2⟩ := info_parts info_uF
  refine Lib.wpList_append_own_string (w := w) hg s x 47 9 hop base 5 i0 Tryz.underlying47 Tryz.underlying9 hi0 hz0 hz1 hz2 (.slice A n c) n (fl uF L) hs hO.own (bsB M) hx (by rw [bsB_size]; unfold maxLen; omega) (by rw [bsB_size]; exact hb) hbase ?_
  intro v' w' h1 h2 _
  rw [bsB_size, show Lib.strCells (bsB M) = fl uF M by rw [fl_uF]; rfl, ← fl_app] at h1
  obtain ⟨A', c', rfl, hle, _, hnz⟩ := own_formG h1
  exact h A' c' w' ⟨by rw [List.length_append, hO.len], hle, hnz, h1⟩ (grown_below h2 (fun k hk => (hO.own.lt k hk).1) hbase)
theorem joW_snoc (L : List Tk) (t : Tk) : joW (L ++ [t]) = if L = [] then txT t else (joW L ++ [32]) ++ txT t := by
  cases L with
  | nil => simp [joW, txT]
  | cons u r =>
    rw [if_neg (by simp), List.cons_append, joW_cons, joW_cons]
    simp [Lib.joinTail]
theorem tx_pos {t : Tk} (h : fmT t = true) : 0 < (txT t).length := by
  have := (kd_text (fmt_kd (show fmB t.k t.s t.n = true from h))).2
  exact List.length_pos_iff.2 this
/-- between two rounds of the reference's Join -/
structure JrI (w : World) (L : List Tk) (k : Nat) (A : Option Addr) (n c : Nat) (wr : World) : Prop where
  own : OwnR uF 1 5 wr w.heap.size A n c (joW (L.take k))
  adr : ∃ g, A = some ⟨g, 0, none⟩
  bl : Below w.heap.size w wr
  ok : ∀ t ∈ L.take k, fmT t = true
theorem JrI.step {w wr w1 : World} {L : List Tk} {k n n' c c' : Nat} {A A' : Option Addr} {t : Tk} (I : JrI w L k A n c wr) (ht : L[k]? = some t) (hf : fmT t = true)
    (ho : OwnR uF 1 5 w1 w.heap.size A' n' c' ((if k = 0 then [] else joW (L.take k) ++ [32]) ++ txT t)) (hb : Below w.heap.size w w1) : JrI w L (k + 1) A' n' c' w1 := by
  have e : L.take (k + 1) = L.take k ++ [t] := by rw [List.take_add_one, ht]; rfl
  have hkl : k < L.length := by
    rcases Nat.lt_or_ge k L.length with h | h
    · exact h
    · rw [List.getElem?_eq_none h] at ht; cases ht
  have ej : joW (L.take (k + 1)) = (if k = 0 then [] else joW (L.take k) ++ [32]) ++ txT t := by
    rw [e, joW_snoc]
    by_cases h0 : k = 0
    · subst h0; rw [List.take_zero, if_pos rfl, if_pos rfl, List.nil_append]
    · rw [if_neg h0, if_neg (by intro h; have := congrArg List.length h; rw [List.length_take, List.length_nil] at this; omega)]
  rw [← ej] at ho
  have hp : 0 < n' := by
    have h1 := ho.len
    rw [ej, List.length_append] at h1
    have := tx_pos hf
    omega
  obtain ⟨g, cap, hv, hg, hlt⟩ := ho.own.form hp
  refine ⟨ho, ⟨g, by injection hv⟩, hb, ?_⟩
  intro u hu
  rw [e] at hu
  rcases List.mem_append.1 hu with h | h
  · exact I.ok u h
  · simp at h; subst h; exact hf
theorem jn_le {L : List Tk} (hz : ∀ t ∈ L, (txT t).length ≤ 5000000) (h5 : ¬ 5000 < L.length) (k : Nat) : (joW (L.take k)).length ≤ 5001 * 5000001 := by
  have := joW_len (L := L.take k) (fun t ht => hz t (List.mem_of_mem_take ht))
  rw [List.length_take] at this
  have h2 : min k L.length * 5000001 ≤ 5000 * 5000001 := Nat.mul_le_mul_right _ (by omega)
  omega
set_option maxRecDepth 100000 in
set_option maxHeartbeats 4000000 in
theorem rjoin_any {w : World} {A : Option Addr} {n c : Nat} {L : List Tk} (hn : n ≤ 9223372036854775807) (h : TkR w A n L) (hz : ∀ t ∈ L, t.s.length ≤ 1048576) :
    Calls Tryz.prog 12 #[.slice A n c] w fun e w' => e = .returned (.tuple #[.string (bsB (joS L)), .int .i64 (joE L)]) ∧ Below w.heap.size w w' := by
  have H := Lib.hid h
  have hlen := h.len
  obtain ⟨E, hE⟩ : ∃ E, joE L = E := ⟨_, rfl⟩
  obtain ⟨X, hX⟩ : ∃ X, bsB (joS L) = X := ⟨_, rfl⟩
  rw [hE, hX]
  by_cases h5 : 5000 < n
  · obtain ⟨e1, e2⟩ := jo_many (L := L) (by omega)
    obtain rfl : E = 5 := by rw [← hE, e1]
    obtain rfl : X = ⟨#[]⟩ := by rw [← hX, e2]; rfl
    clear h hlen hE hX e1 e2
    go_enter Tryz.func12, Tryz.ntmps12
    go_wp2
    go_ret2
    exact ⟨rfl, Below.refl _ _⟩
  · have h5' : ¬ 5000 < L.length := by omega
    have hxl : ∀ t ∈ L, (txT t).length ≤ 5000000 := fun t ht => tx_len (hz t ht) (h.rng t ht)
    have HJL := Lib.hid (jn_le hxl h5')
    have HXL := Lib.hid hxl
    have HE := Lib.hid hE
    have HX := Lib.hid hX
    have HZ := Lib.hid hz
    have HN := Lib.hid hlen
    have H5 := Lib.hid h5'
    have HI := Lib.hid (show JrI w L 0 (some ⟨w.heap.size, 0, none⟩) 0 0 (w.alloc (.cells #[] 5)) from ⟨own_lit0U (Nat.le_refl _), ⟨_, rfl⟩, below_al (Below.refl _ _) _, fun t ht => by simp at ht⟩)
    clear h hlen hE hX hz h5' hxl
    go_enter Tryz.func12, Tryz.ntmps12
    go_wp2
    go_loopw [4, 5] (fun v i wr => ∃ (k m : Nat) (V : Option Addr) (vc : Nat), k ≤ n ∧ i = .int .i64 k ∧ v = .slice V m vc ∧ JrI w L k V m vc wr) (fun _ i _ => n - (intOf i).toNat)
    case atStart => exact ⟨0, 0, _, _, Nat.zero_le _, rfl, rfl, HI.out⟩
    case round =>
      clear HI
      obtain ⟨k, m, V, vc, hk, rfl, rfl, I⟩ := hrel
      have II := Lib.hid I
      have hml : m ≤ 5001 * 5000001 := by have := I.own.len; have := HJL.out k; omega
      clear I
      by_cases hlt : k < n
      · obtain ⟨t, g, o, hkt, rfl, hg, c0, c1, c2, c3⟩ := (H.out.up II.out.bl).get hlt
        have ht := List.mem_of_getElem? hkt
        have HT := Lib.hid ht
        have HKT := Lib.hid hkt
        have hxt := HXL.out t ht
        have KF := fun W => rformat_any t.k t.n t.a (bsB t.s) (by rw [bsB_size]; exact HZ.out t ht) (H.out.rng t ht).2 W
        rw [bsB_data] at KF
        have hk0 : (0 : Int) ≤ (k : Int) := by omega
        have hk1 : (k : Int) < (n : Int) := by omega
        clear hkt ht
        cases hf : fmT t with
        | false =>
          rw [fmV_no hf] at KF
          have HKF := Lib.hid KF
          obtain ⟨e1, e2⟩ := jo_bad H5.out HT.out hf
          have HE1 := Lib.hid (show E = 1 by rw [← HE.out, e1])
          have HX1 := Lib.hid (show X = ⟨#[]⟩ by rw [← HX.out, e2]; rfl)
          clear hf KF e1 e2
          go_wp2_with (go_at_call 10; refine (HKF.out _).mono ?_; rintro e w1 ⟨rfl, hbw⟩; have HBW := Lib.hid (below_on II.out.bl hbw); clear hbw)
          go_ret2
          exact ⟨by rw [HE1.out, HX1.out]; rfl, HBW.out⟩
        | true =>
          rw [fmV_ok hf] at KF
          have HKF := Lib.hid KF
          have HST := Lib.hid (fun A' n' c' w1 => II.out.step (w1 := w1) (A' := A') (n' := n') (c' := c') HKT.out hf)
          clear hf KF
          by_cases h0 : k = 0
          · subst h0
            simp only [Nat.zero_mul, Nat.add_zero] at c0 c1 c2 c3
            have HO := Lib.hid (show OwnR uF 1 5 wr w.heap.size V m vc [] from II.out.own)
            obtain rfl : m = 0 := HO.out.len.symm
            go_wp2_with (first | (go_at_call 10; refine (HKF.out _).mono ?_; rintro e w1 ⟨rfl, hbw⟩; have HBW := Lib.hid (below_on II.out.bl hbw); have HO := Lib.hid (HO.out.below hbw); clear hbw) | (at_builtin; refine append_strU (by rfl) _ _ (by rfl) (txT t) (by rfl) HO.out (by rfl) (by omega) (by have := HBW.out.size; omega) ?_; intro A2 c2 w9 hO9 hb9; have HO9 := Lib.hid hO9; have HB9 := Lib.hid (HBW.out.trans hb9); clear hO9 hb9))
            refine ⟨⟨0 + 1, _, A2, c2, by omega, by go_num, rfl, HST.out A2 _ c2 w9 (by rw [if_pos True.intro]; simpa using HO9.out) HB9.out⟩, ?_⟩
            simp [intOf]; omega
          · have hk2 : (0 : Int) < (k : Int) := by omega
            have HO := Lib.hid II.out.own
            have HK0 := Lib.hid h0
            clear h0
            go_wp2_with (first | (go_at_call 10; refine (HKF.out _).mono ?_; rintro e w1 ⟨rfl, hbw⟩; have HBW := Lib.hid (below_on II.out.bl hbw); have HO := Lib.hid (HO.out.below hbw); clear hbw) | (at_builtin; refine append_uN (m := 1) (by rfl) _ _ (by rfl) [32] (by rfl) (by rfl) (HO.out.below (below_al (Below.refl _ _) _)) (by rfl) (newUL _ _ (by rfl)) (by omega) (by have := HBW.out.size; simp; omega) ?_; intro A2 c2 w8 hO8 hb8 hg8; have HO8 := Lib.hid hO8; have HB8 := Lib.hid ((below_al HBW.out _).trans hb8); clear hO8 hb8 hg8) | (at_builtin; refine append_strU (by rfl) _ _ (by rfl) (txT t) (by rfl) HO8.out (by rfl) (by omega) (by have := HB8.out.size; omega) ?_; intro A3 c3 w9 hO9 hb9; have HO9 := Lib.hid hO9; have HB9 := Lib.hid (HB8.out.trans hb9); clear hO9 hb9))
            refine ⟨⟨k + 1, _, A3, c3, by omega, by go_num, rfl, HST.out A3 _ c3 w9 (by rw [if_neg HK0.out]; exact HO9.out) HB9.out⟩, ?_⟩
            simp [intOf]; omega
      · obtain rfl : k = n := by omega
        have hall : ∀ t ∈ L, fmT t = true := by have := II.out.ok; rw [List.take_of_length_le (by rw [HN.out]; exact Nat.le_refl _)] at this; exact this
        obtain ⟨j1, j2⟩ := jo_all H5.out hall
        obtain ⟨g, rfl⟩ := II.out.adr
        have ho := II.out.own
        rw [List.take_of_length_le (by rw [HN.out]; exact Nat.le_refl _)] at ho
        have hm := ho.len
        have hcv := conv_own ho
        by_cases h2 : 20000 < (joW L).length
        · have HE1 := Lib.hid (show E = 8 by rw [← HE.out, (j1 h2).1])
          have HX1 := Lib.hid (show X = ⟨#[]⟩ by rw [← HX.out, (j1 h2).2]; rfl)
          have h2' : (20000 : Int) < (m : Int) := by omega
          clear hall j1 j2 hm h2 ho hcv
          go_wp2
          go_ret2
          exact ⟨by rw [HE1.out, HX1.out]; rfl, II.out.bl⟩
        · have HE1 := Lib.hid (show E = 0 by rw [← HE.out, (j2 h2).1])
          have HX1 := Lib.hid (show X = bsB (joW L) by rw [← HX.out, (j2 h2).2])
          have h2' : ¬ (20000 : Int) < (m : Int) := by omega
          clear hall j1 j2 hm h2 ho
          go_wp2
          go_ret2
          exact ⟨by rw [HE1.out, HX1.out]; rfl, II.out.bl⟩

end Go.Proofs.YtfpdnhbbbadegaaGreatDoor
