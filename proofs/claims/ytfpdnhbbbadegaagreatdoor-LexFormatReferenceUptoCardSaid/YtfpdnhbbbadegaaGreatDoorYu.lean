/- Layer 53: Join. (gen/yu.py) -/
import Derived.Test.YtfpdnhbbbadegaaGreatDoorYt
namespace Go.Proofs.YtfpdnhbbbadegaaGreatDoor
open Go.ChangeShapes Go.WideShapes Go.ChangeAt Go.RowKit Go.PlainAid
set_option linter.unusedSimpArgs false
set_option linter.unusedVariables false

def sF (s : ByteArray) : List Value := [.string s]
theorem sF_len (s : ByteArray) : (sF s).length = 1 := rfl
theorem sF_one (s : ByteArray) : ∀ u ∈ sF s, u.oneCell' = true := by
  intro u hu
  simp [sF] at hu
  subst hu; rfl
theorem info_sF : (Tryz.prog.info? 9).map (fun i => (i.zero, i.size, i.bytes)) = some (some (.string ⟨#[]⟩), 1, 16) := by kernel_rfl
theorem append_sF {w : World} {ops : Array Oper} {rest : List Oper} {o : Oper} {a : Act} {Q : Exit → Act → World → Prop} (hg : o.guard = none) (s x : Operand)
    (hop : o.op = Op.call { callee := Callee.builtin Builtin.append, args := #[s, x], argTypes := #[34, 34] })
    {base n c B : Nat} {A : Option Addr} {L : List ByteArray} {i : ByteArray} (hs : a.eval s = .slice A n c) (hO : OwnR sF 1 9 w base A n c L) (hx : a.eval x = .slice (some ⟨B, 0, none⟩) 1 1)
    (hi : ∀ j u, (sF i)[j]? = some u → w.cell? ⟨B, j, none⟩ = some u) (hb : n ≤ 100000) (hbase : base ≤ w.heap.size)
    (h : ∀ A' c' w', OwnR sF 1 9 w' base A' (n + 1) c' (L ++ [i]) → Below base w w' → w.grownBy w' (Value.slice A n c).ownBlock → wpList Tryz.prog ops Q rest (a.put o.dst (.slice A' (n + 1) c')) w') : wpList Tryz.prog ops Q (o :: rest) a w := by
  obtain ⟨i0, hi0, hz0, hz1, hz2⟩ := info_parts info_sF
  refine _root_.Go.wpList_append_own (w := w) hg s x 34 hop base 9 i0 _ 1 16 Tryz.underlying34 hi0 hz0 hz1 hz2 rfl (by decide) (.slice A n c) n (fl sF L) hs hO.own ⟨B, 0, none⟩ 1 1 (sF i) hx rfl (fun j u hu => by
    rcases Nat.eq_zero_or_pos j with rfl | hj
    · simpa [Addr.add] using hi 0 u hu
    · have : j ≠ 0 := by omega
      simpa [Addr.add, this] using hi j u hu) (by rw [← fl_one sF]; exact fl_cell sF_one _) (by unfold maxLen; omega) (by omega) hbase ?_
  intro v' w' h1 h2 _
  rw [← fl_one sF, ← fl_app] at h1
  obtain ⟨A', c', rfl, hle, _, hnz⟩ := own_formG h1
  refine h A' c' w' ⟨by rw [List.length_append, hO.len]; rfl, hle, hnz, h1⟩ (grown_below h2 (fun k hk => (hO.own.lt k hk).1) hbase) h2

theorem newS {w : World} (x : ByteArray) : ∀ j u, (sF x)[j]? = some u → (w.alloc (.cells #[.string x] 9)).cell? ⟨w.heap.size, j, none⟩ = some u := by
  intro j u hu
  have h := World.alloc_heap_new w (.cells #[.string x] 9)
  generalize w.alloc (.cells #[.string x] 9) = W at h ⊢
  rcases j with _ | j <;> simp [sF] at hu <;> subst hu <;> simp [World.cell?, h]
/-! pure -/
def txT (t : Tk) : List UInt8 := txL t.k t.s t.n
def fmT (t : Tk) : Bool := fmB t.k t.s t.n
theorem joW_cons (t : Tk) (ts : List Tk) : joW (t :: ts) = txT t ++ Lib.joinTail [32] (ts.map txT) := by
  induction ts generalizing t with
  | nil => simp [joW, txT, Lib.joinTail]
  | cons u r ih =>
    show txT t ++ 32 :: joW (u :: r) = _
    rw [ih u]
    simp [Lib.joinTail]
theorem joW_eq (L : List Tk) : Lib.join (L.map txT) [32] = joW L := by
  cases L with
  | nil => rfl
  | cons t ts => rw [joW_cons, List.map_cons, Lib.join_cons]
theorem tx_len {t : Tk} (hs : t.s.length ≤ 1048576) (hr : -9223372036854775808 ≤ t.n ∧ t.n ≤ 9223372036854775807) : (txT t).length ≤ 5000000 := by
  unfold txT txL
  split
  · have := rp_le t.s; omega
  · split
    · have := Lib.itoa_length_le t.n hr.1 hr.2; omega
    · split
      · have := Lib.itoa_length_le t.n hr.1 hr.2; rw [List.length_append]; simp; omega
      · split
        · have := qt_len t.s
          unfold quL
          simp only [List.length_cons, List.length_append, List.length_nil]
          omega
        · omega
theorem tail_len : ∀ (L : List Tk), (∀ t ∈ L, (txT t).length ≤ 5000000) → (Lib.joinTail [32] (L.map txT)).length ≤ L.length * 5000001
  | [], _ => by simp [Lib.joinTail]
  | t :: L, h => by
    have ih := tail_len L (fun u hu => h u (List.mem_cons_of_mem _ hu))
    have h1 := h t List.mem_cons_self
    unfold Lib.joinTail at ih ⊢
    simp only [List.map_cons, List.flatten_cons, List.length_append, List.length_cons, List.length_nil] at ih ⊢
    omega
theorem joW_len {L : List Tk} (h : ∀ t ∈ L, (txT t).length ≤ 5000000) : (joW L).length ≤ L.length * 5000001 + 5000001 := by
  cases L with
  | nil => simp [joW]
  | cons t ts =>
    rw [joW_cons, List.length_append, List.length_cons]
    have := tail_len ts (fun u hu => h u (List.mem_cons_of_mem _ hu))
    have := h t List.mem_cons_self
    omega
theorem fmV_ok {t : Tk} (h : fmT t = true) : fmV t.k t.s t.n = .tuple #[.string (bsB (txT t)), .int .i64 0] := by
  unfold fmT at h; unfold fmV; rw [if_pos h]; rfl
theorem fmV_no {t : Tk} (h : fmT t = false) : fmV t.k t.s t.n = .tuple #[.string ⟨#[]⟩, .int .i64 1] := by
  unfold fmT at h; unfold fmV; rw [if_neg (by rw [h]; decide)]
theorem jo_many {L : List Tk} (h : 5000 < L.length) : joE L = 5 ∧ joS L = [] := by
  have h1 : joE L = 5 := by unfold joE; rw [if_pos h]
  exact ⟨h1, by unfold joS; rw [h1]; rfl⟩
theorem jo_bad {L : List Tk} (h : ¬ 5000 < L.length) {t : Tk} (ht : t ∈ L) (hf : fmT t = false) : joE L = 1 ∧ joS L = [] := by
  have h1 : joE L = 1 := by
    unfold joE
    rw [if_neg h, if_neg]
    rw [List.all_eq_true]
    intro ha
    have := ha t ht
    unfold fmT at hf
    rw [hf] at this; cases this
  exact ⟨h1, by unfold joS; rw [h1]; rfl⟩
theorem jo_all {L : List Tk} (h : ¬ 5000 < L.length) (hf : ∀ t ∈ L, fmT t = true) : (20000 < (joW L).length → joE L = 8 ∧ joS L = []) ∧ (¬ 20000 < (joW L).length → joE L = 0 ∧ joS L = joW L) := by
  have ha : L.all (fun t => fmB t.k t.s t.n) = true := by rw [List.all_eq_true]; exact hf
  have key : joE L = if 20000 < (joW L).length then 8 else 0 := by unfold joE; rw [if_neg h, if_pos ha]
  refine ⟨fun h2 => ?_, fun h2 => ?_⟩
  · rw [if_pos h2] at key; exact ⟨key, by unfold joS; rw [key]; rfl⟩
  · rw [if_neg h2] at key; exact ⟨key, by unfold joS; rw [key]; rfl⟩
/-- between two rounds: k words -/
structure JoI (w : World) (L : List Tk) (k : Nat) (A : Option Addr) (c : Nat) (wr : World) : Prop where
  own : OwnR sF 1 9 wr w.heap.size A k c ((L.take k).map fun t => bsB (txT t))
  adr : ∃ g, A = some ⟨g, 0, none⟩ ∧ g < wr.heap.size
  bl : Below w.heap.size w wr
  ok : ∀ t ∈ L.take k, fmT t = true
theorem JoI.step {w wr w1 : World} {L : List Tk} {k : Nat} {A A' : Option Addr} {c c' : Nat} {t : Tk} (I : JoI w L k A c wr) (ht : L[k]? = some t) (hf : fmT t = true)
    (ho : OwnR sF 1 9 w1 w.heap.size A' (k + 1) c' (((L.take k).map fun t => bsB (txT t)) ++ [bsB (txT t)])) (hb : Below w.heap.size w w1) : JoI w L (k + 1) A' c' w1 := by
  have e : L.take (k + 1) = L.take k ++ [t] := by rw [List.take_add_one, ht]; rfl
  obtain ⟨g, cap, hv, hg, hlt⟩ := ho.own.form (Nat.succ_pos k)
  refine ⟨by rw [e, List.map_append]; exact ho, ⟨g, by injection hv, hlt⟩, hb, ?_⟩
  intro u hu
  rw [e] at hu
  rcases List.mem_append.1 hu with h | h
  · exact I.ok u h
  · simp at h; subst h; exact hf
set_option maxRecDepth 100000 in
set_option maxHeartbeats 4000000 in
theorem join_any {w : World} {A : Option Addr} {n c : Nat} {L : List Tk} (hn : n ≤ 9223372036854775807) (h : TkR w A n L) (hz : ∀ t ∈ L, t.s.length ≤ 1048576) (hL : Laid w) :
    Calls Tryz.prog 11 #[.slice A n c] w fun e w' => e = .returned (.tuple #[.string (bsB (joS L)), .int .i64 (joE L)]) ∧ Below w.heap.size w w' := by
  have H := Lib.hid h
  have hlen := h.len
  obtain ⟨E, hE⟩ : ∃ E, joE L = E := ⟨_, rfl⟩
  obtain ⟨X, hX⟩ : ∃ X, bsB (joS L) = X := ⟨_, rfl⟩
  rw [hE, hX]
  by_cases h5 : 5000 < n
  · obtain ⟨e1, e2⟩ := jo_many (L := L) (by omega)
    obtain rfl : E = 5 := by rw [← hE, e1]
    obtain rfl : X = ⟨#[]⟩ := by rw [← hX, e2]; rfl
    clear h hlen hE hX e1 e2
    go_enter Tryz.func11, Tryz.ntmps11
    go_wp2
    go_ret2
    exact ⟨rfl, Below.refl _ _⟩
  · have h5' : ¬ 5000 < L.length := by omega
    have HE := Lib.hid hE
    have HX := Lib.hid hX
    have HZ := Lib.hid hz
    have HLD := Lib.hid hL
    have HN := Lib.hid hlen
    have H5 := Lib.hid h5'
    clear h hlen hE hX hz hL h5'
    obtain ⟨i0, hi, hz0, hz1, hz2⟩ := info_parts info_sF
    go_enter Tryz.func11, Tryz.ntmps11
    go_wp2_with (at_make; refine wpList_make_own _ rfl _ _ 34 rfl w.heap.size 9 i0 (.string ⟨#[]⟩) 1 Tryz.underlying34 hi hz0 hz1 .i64 .i64 (n : Int) n rfl rfl rfl (by rw [hz2]; omega) (by unfold maxLen; omega) (Nat.le_refl _) ?_; intro wm ho hg)
    have hB := grown_below hg (B := w.heap.size) (fun k hk => by cases hk) (Nat.le_refl _)
    have HI := Lib.hid (show JoI w L 0 (some ⟨w.heap.size, 0, none⟩) n wm from ⟨⟨rfl, Nat.zero_le _, (fun e => by cases e), ho⟩, ⟨_, rfl, by
      rcases ho.2 with ⟨h, _⟩ | ⟨g, cap, cur, hv, _, hh, _⟩
      · cases h
      · have : w.heap.size = g := by injection hv with h1; injection h1 with h1; injection h1
        rw [this]; exact lt_heap hh⟩, hB, fun t ht => by simp at ht⟩)
    clear hi hz0 hz1 hz2 ho hg hB
    go_wp2
    go_loopw [4, 18] (fun v i wr => ∃ (k : Nat) (V : Option Addr) (vc : Nat), k ≤ n ∧ i = .int .i64 k ∧ v = .slice V k vc ∧ JoI w L k V vc wr) (fun _ i _ => n - (intOf i).toNat)
    case atStart => exact ⟨0, _, _, Nat.zero_le _, rfl, rfl, HI.out⟩
    case round =>
      clear HI
      obtain ⟨k, V, vc, hk, rfl, rfl, I⟩ := hrel
      have II := Lib.hid I
      clear I
      by_cases hlt : k < n
      · obtain ⟨t, g, o, hkt, rfl, hg, c0, c1, c2, c3⟩ := (H.out.up II.out.bl).get hlt
        have ht := List.mem_of_getElem? hkt
        have HT := Lib.hid ht
        have HKT := Lib.hid hkt
        have KF := fun W (hW : Laid W) => format_any t.k t.n t.a (bsB t.s) (by rw [bsB_size]; exact HZ.out t ht) (H.out.rng t ht).1 (H.out.rng t ht).2 W hW
        rw [bsB_data] at KF
        have hk0 : (0 : Int) ≤ (k : Int) := by omega
        have hk1 : (k : Int) < (n : Int) := by omega
        clear hkt ht
        cases hf : fmT t with
        | false =>
          rw [fmV_no hf] at KF
          have HKF := Lib.hid KF
          obtain ⟨e1, e2⟩ := jo_bad H5.out HT.out hf
          have HE1 := Lib.hid (show E = 1 by rw [← HE.out, e1])
          have HX1 := Lib.hid (show X = ⟨#[]⟩ by rw [← HX.out, e2]; rfl)
          clear hf KF e1 e2
          go_upto_region 7 with fail
          have hZ := World.alloc_heap_new wr (.cells #[.int .i64 t.k, .string (bsB t.s), .int .i64 t.n, .int .i64 t.a] 27)
          have hB2 := below_al II.out.bl (.cells #[.int .i64 t.k, .string (bsB t.s), .int .i64 t.n, .int .i64 t.a] 27)
          generalize wr.alloc (.cells #[.int .i64 t.k, .string (bsB t.s), .int .i64 t.n, .int .i64 t.a] 27) = W2 at hZ hB2 ⊢
          obtain ⟨⟨z0, z1, z2, z3⟩, fz, yz⟩ := four_cellsT hZ
          have HB2 := Lib.hid hB2
          clear hZ hB2
          go_wp2_with (go_at_call 9; refine (HKF.out _ (HLD.out.up HB2.out)).mono ?_; rintro e w1 ⟨rfl, hbw⟩; have HBW := Lib.hid (below_on HB2.out hbw); clear hbw)
          go_ret2
          exact ⟨by rw [HE1.out, HX1.out]; rfl, HBW.out⟩
        | true =>
          rw [fmV_ok hf] at KF
          have HKF := Lib.hid KF
          have HST := Lib.hid (fun A' c' w1 => II.out.step (w1 := w1) (A' := A') (c' := c') HKT.out hf)
          clear hf KF
          go_upto_region 7 with fail
          have hZ := World.alloc_heap_new wr (.cells #[.int .i64 t.k, .string (bsB t.s), .int .i64 t.n, .int .i64 t.a] 27)
          have hB2 := below_al II.out.bl (.cells #[.int .i64 t.k, .string (bsB t.s), .int .i64 t.n, .int .i64 t.a] 27)
          have hb2 := below_al (Below.refl _ wr) (.cells #[.int .i64 t.k, .string (bsB t.s), .int .i64 t.n, .int .i64 t.a] 27)
          generalize wr.alloc (.cells #[.int .i64 t.k, .string (bsB t.s), .int .i64 t.n, .int .i64 t.a] 27) = W2 at hZ hB2 hb2 ⊢
          obtain ⟨⟨z0, z1, z2, z3⟩, fz, yz⟩ := four_cellsT hZ
          have HB2 := Lib.hid hB2
          have HO2 := Lib.hid (II.out.own.below hb2)
          clear hZ hB2 hb2
          go_wp2_with (first | (go_at_call 9; refine (HKF.out _ (HLD.out.up HB2.out)).mono ?_; rintro e w1 ⟨rfl, hbw⟩; have HBW := Lib.hid (below_on HB2.out hbw); have HO3 := Lib.hid (HO2.out.below hbw); clear hbw) | (at_builtin; refine append_sF (by rfl) _ _ (by rfl) (by rfl) (HO3.out.below (below_al (Below.refl _ _) _)) (by rfl) (newS (bsB (txT t))) (by omega) (by have := HBW.out.size; simp; omega) ?_; intro A2 c2 w9 hO9 hb9 hg9; have HO9 := Lib.hid hO9; have HB9 := Lib.hid ((below_al HBW.out _).trans hb9); clear hO9 hb9 hg9))
          refine ⟨⟨k + 1, A2, c2, by omega, by go_num, rfl, HST.out A2 c2 w9 HO9.out HB9.out⟩, ?_⟩
          simp [intOf]; omega
      · obtain rfl : k = n := by omega
        have hall : ∀ t ∈ L, fmT t = true := by have := II.out.ok; rw [List.take_of_length_le (by rw [HN.out]; exact Nat.le_refl _)] at this; exact this
        obtain ⟨j1, j2⟩ := jo_all H5.out hall
        obtain ⟨g, rfl, hg⟩ := II.out.adr
        have hml : (L.map fun t => bsB (txT t)).length = k := by rw [List.length_map]; exact HN.out
        have htl : ∀ t ∈ L, (txT t).length ≤ 5000000 := fun t ht => tx_len (HZ.out t ht) (H.out.rng t ht)
        have hjl := joW_len htl
        rw [HN.out] at hjl
        have hmm : (L.map fun t => bsB (txT t)).map (·.data.toList) = L.map txT := by rw [List.map_map]; rfl
        have KJ := Tryz.strings_Join g 0 vc (L.map fun t => bsB (txT t)) ⟨#[32]⟩ wr (by
          intro j x hx
          have ho := II.out.own.own
          rw [List.take_of_length_le (by rw [HN.out]; exact Nat.le_refl _)] at ho
          have hj : j < k := by
            rcases Nat.lt_or_ge j k with h | h
            · exact h
            · rw [List.getElem?_eq_none (by rw [hml]; exact h)] at hx; cases hx
          rw [ho.cellAt _ (by omega)]
          have := fl_at (F := sF) sF_len (L.map fun t => bsB (txT t)) j 0 x (by decide) hx
          rw [Nat.mul_one, Nat.add_zero] at this
          rw [Nat.zero_add, this]; rfl) hg (by rw [hml]; omega) (by rw [hml]; exact II.out.own.le) (by rw [hmm]; show (Lib.join (L.map txT) [32]).length ≤ _; rw [joW_eq]; omega)
        rw [hml, hmm] at KJ
        rw [show (⟨(Lib.join (L.map txT) (⟨#[32]⟩ : ByteArray).data.toList).toArray⟩ : ByteArray) = bsB (joW L) by rw [← joW_eq]; rfl] at KJ
        have hws := bsB_size (joW L)
        obtain ⟨Y, hY⟩ : ∃ Y, bsB (joW L) = Y := ⟨_, rfl⟩
        rw [hY] at KJ hws
        have HKJ := Lib.hid KJ
        by_cases h2 : 20000 < (joW L).length
        · have HE1 := Lib.hid (show E = 8 by rw [← HE.out, (j1 h2).1])
          have HX1 := Lib.hid (show X = ⟨#[]⟩ by rw [← HX.out, (j1 h2).2]; rfl)
          have h2' : (20000 : Int) < (Y.size : Int) := by omega
          clear hall j1 j2 hml htl hjl hmm KJ hws hY h2
          go_wp2_with (go_at_call 28; refine HKJ.out.mono ?_; rintro e w1 ⟨rfl, hbw⟩; have HBW := Lib.hid (below_on II.out.bl hbw); clear hbw)
          go_ret2
          exact ⟨by rw [HE1.out, HX1.out]; rfl, HBW.out⟩
        · have HE1 := Lib.hid (show E = 0 by rw [← HE.out, (j2 h2).1])
          have HX1 := Lib.hid (show X = Y by rw [← HX.out, (j2 h2).2, hY])
          have h2' : ¬ (20000 : Int) < (Y.size : Int) := by omega
          clear hall j1 j2 hml htl hjl hmm KJ hws hY h2
          go_wp2_with (go_at_call 28; refine HKJ.out.mono ?_; rintro e w1 ⟨rfl, hbw⟩; have HBW := Lib.hid (below_on II.out.bl hbw); clear hbw)
          go_ret2
          exact ⟨by rw [HE1.out, HX1.out]; rfl, HBW.out⟩

end Go.Proofs.YtfpdnhbbbadegaaGreatDoor
