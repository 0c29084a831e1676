/- Layer 53, the reference: text. -/
import Derived.Test.YtfpdnhbbbadegaaGreatDoorTd
import Derived.Test.YtfpdnhbbbadegaaGreatDoorTb
import Derived.Test.YtfpdnhbbbadegaaGreatDoorYk
import Derived.Laws.IdiomStrings
namespace Go.Proofs.YtfpdnhbbbadegaaGreatDoor
open Go.ChangeShapes Go.WideShapes Go.ChangeAt Go.RowKit Go.PlainAid
set_option linter.unusedSimpArgs false
set_option linter.unusedVariables false

def uF (c : UInt8) : List Value := [.int .u8 (c.toNat : Int)]
theorem uF_len (c : UInt8) : (uF c).length = 1 := rfl
theorem uF_one (c : UInt8) : ∀ u ∈ uF c, u.oneCell' = true := by
  intro u hu
  simp [uF] at hu
  subst hu; rfl
theorem info_uF : (Tryz.prog.info? 5).map (fun i => (i.zero, i.size, i.bytes)) = some (some (.int .u8 0), 1, 1) := by kernel_rfl
theorem append_uF {w : World} {ops : Array Oper} {rest : List Oper} {o : Oper} {a : Act} {Q : Exit → Act → World → Prop} (hg : o.guard = none) (s x : Operand)
    (hop : o.op = Op.call { callee := Callee.builtin Builtin.append, args := #[s, x], argTypes := #[47, 47] })
    {base n c B : Nat} {A : Option Addr} {L : List UInt8} {i : UInt8} (hs : a.eval s = .slice A n c) (hO : OwnR uF 1 5 w base A n c L) (hx : a.eval x = .slice (some ⟨B, 0, none⟩) 1 1)
    (hi : ∀ j u, (uF i)[j]? = some u → w.cell? ⟨B, j, none⟩ = some u) (hb : n ≤ 10000000) (hbase : base ≤ w.heap.size)
    (h : ∀ A' c' w', OwnR uF 1 5 w' base A' (n + 1) c' (L ++ [i]) → Below base w w' → w.grownBy w' (Value.slice A n c).ownBlock → wpList Tryz.prog ops Q rest (a.put o.dst (.slice A' (n + 1) c')) w') : wpList Tryz.prog ops Q (o :: rest) a w := by
  obtain ⟨i0, hi0, hz0, hz1, hz2⟩ := info_parts info_uF
  refine _root_.Go.wpList_append_own (w := w) hg s x 47 hop base 5 i0 _ 1 1 Tryz.underlying47 hi0 hz0 hz1 hz2 rfl (by decide) (.slice A n c) n (fl uF L) hs hO.own ⟨B, 0, none⟩ 1 1 (uF i) hx rfl (fun j u hu => by
    rcases Nat.eq_zero_or_pos j with rfl | hj
    · simpa [Addr.add] using hi 0 u hu
    · have : j ≠ 0 := by omega
      simpa [Addr.add, this] using hi j u hu) (by rw [← fl_one uF]; exact fl_cell uF_one _) (by unfold maxLen; omega) (by omega) hbase ?_
  intro v' w' h1 h2 _
  rw [← fl_one uF, ← fl_app] at h1
  obtain ⟨A', c', rfl, hle, _, hnz⟩ := own_formG h1
  refine h A' c' w' ⟨by rw [List.length_append, hO.len]; rfl, hle, hnz, h1⟩ (grown_below h2 (fun k hk => (hO.own.lt k hk).1) hbase) h2

theorem newU {w : World} (x : UInt8) (b : Int) (hb : (x.toNat : Int) = b) : ∀ j u, (uF x)[j]? = some u → (w.alloc (.cells #[.int .u8 b] 5)).cell? ⟨w.heap.size, j, none⟩ = some u := by
  intro j u hu
  have h := World.alloc_heap_new w (.cells #[.int .u8 b] 5)
  generalize w.alloc (.cells #[.int .u8 b] 5) = W at h ⊢
  rcases j with _ | j <;> simp [uF] at hu <;> subst hu <;> simp [World.cell?, h, hb]
theorem own_lit0U {w : World} {B : Nat} (hB : B ≤ w.heap.size) : OwnR uF 1 5 (w.alloc (.cells #[] 5)) B (some ⟨w.heap.size, 0, none⟩) 0 0 [] :=
  ⟨rfl, Nat.le_refl _, (fun e => by cases e), rfl, Or.inr ⟨w.heap.size, 0, #[], rfl, hB, World.alloc_heap_new _ _, Nat.zero_le _, Nat.zero_le _, rfl, rfl⟩⟩
theorem conv_own {w : World} {base n c g : Nat} {L : List UInt8} (h : OwnR uF 1 5 w base (some ⟨g, 0, none⟩) n c L) :
    (convert 47 9 (.slice (some ⟨g, 0, none⟩) n c)).run Tryz.prog w = .ok (.string (bsB L)) w := by
  have hl := h.len
  subst hl
  refine run_convert_bytes_back (P := Tryz.prog) w 47 9 5 ⟨g, 0, none⟩ c L Tryz.underlying47 Tryz.underlying5 Tryz.underlying9 (fun j hj => ?_)
  have := h.own.cellAt j (by omega)
  have h2 := fl_at (F := uF) uF_len L j 0 L[j] (by decide) (List.getElem?_eq_getElem hj)
  rw [Nat.mul_one, Nat.add_zero] at h2
  rw [h2] at this
  rw [Addr.add_lit, Nat.zero_add]
  exact this
theorem ch_step {l bs r : List UInt8} {k f : Nat} {c : UInt8} (h : StQ l k f bs) (hk : 1 ≤ k) (hd : l.drop k = c :: r) (hc : c.toNat ≠ 34) :
    ((chV (c :: r)).2 = 0 ∧ scSt l = none) ∨ (0 < (chV (c :: r)).2 ∧ k + (chV (c :: r)).2 ≤ l.length ∧ StQ l (k + (chV (c :: r)).2) (f - 1) (bs ++ [(chV (c :: r)).1])) := by
  have hlen : k + (r.length + 1) = l.length := by
    have := congrArg List.length hd
    rw [List.length_drop, List.length_cons] at this
    omega
  rw [chV_cons]
  by_cases h1 : c.toNat < 32 ∨ 126 < c.toNat
  · rw [if_pos (by omega)]
    exact Or.inl ⟨rfl, sq_bad h hd hc h1⟩
  · rw [if_neg (by omega)]
    by_cases h2 : c.toNat = 92
    · rw [if_pos h2]
      cases he : escL r with
      | none => exact Or.inl ⟨rfl, sq_esc0 h hd h2 he⟩
      | some x =>
        obtain ⟨e, n⟩ := x
        have hb := esc_bd he
        simp only at hb ⊢
        have := sq_esc h hk hd h2 he
        rw [show k + 1 + n = k + (1 + n) by omega] at this
        exact Or.inr ⟨by omega, by omega, this⟩
    · rw [if_neg h2]
      exact Or.inr ⟨Nat.zero_lt_one, by simp only; omega, sq_one h hk hd hc h1 h2⟩
set_option maxRecDepth 100000 in
set_option maxHeartbeats 4000000 in
theorem rtext_any (s : ByteArray) (a : Nat) (hs : s.size ≤ 1000000) (ha : a < s.size) (h1 : bt s a = 34) (w : World) :
    Calls Tryz.prog 47 #[.string s, .int .i64 (a : Int)] w fun e w' => (∃ v, e = .returned v ∧ RsV a (scSt (s.data.toList.drop a)) v) ∧ Below w.heap.size w w' := by
  have hlen := len_data s
  have hb := get_bt s
  obtain ⟨l, hl⟩ : ∃ l, s.data.toList.drop a = l := ⟨_, rfl⟩
  have hll : l.length = s.size - a := by rw [← hl, List.length_drop, hlen]
  have HL := Lib.hid hl
  have HLL := Lib.hid hll
  rw [hl]
  have HZ := Lib.hid (World.alloc_heap_new w (tkO (.int .i64 0) (.string ⟨#[]⟩) (.int .i64 0) (.int .i64 0)))
  have HB := Lib.hid (below_al (Below.refl w.heap.size w) (tkO (.int .i64 0) (.string ⟨#[]⟩) (.int .i64 0) (.int .i64 0)))
  have hsz1 : (w.alloc (tkO (.int .i64 0) (.string ⟨#[]⟩) (.int .i64 0) (.int .i64 0))).heap.size = w.heap.size + 1 := World.size_alloc _ _
  unfold tkO at HZ HB hsz1
  clear hl hll h1 hlen
  go_enter Tryz.func47, Tryz.ntmps47
  go_upto_region 1 with fail
  generalize w.alloc (.cells #[.int .i64 0, .string ⟨#[]⟩, .int .i64 0, .int .i64 0] 27) = W1 at HZ HB hsz1 ⊢
  have HOW := Lib.hid (own_lit0U (w := W1) (B := w.heap.size + 1) (by omega))
  have HB1 := Lib.hid (show Below (w.heap.size + 1) W1 (W1.alloc (.cells #[] 5)) by rw [← hsz1]; exact below_al (Below.refl _ _) _)
  have HS1 := Lib.hid hsz1
  clear hsz1
  go_wp2
  go_loopw [7, 8] (fun bb ee wr => ∃ (k f n c g : Nat) (bs : List UInt8), ee = .int .i64 k ∧ bb = .slice (some ⟨g, 0, none⟩) n c ∧ a + 1 ≤ k ∧ k ≤ s.size ∧ StQ l (k - a) f bs ∧ OwnR uF 1 5 wr (w.heap.size + 1) (some ⟨g, 0, none⟩) n c bs ∧ n ≤ k ∧ Below (w.heap.size + 1) W1 wr) (fun _ ee _ => s.size - (intOf ee).toNat)
  case atStart => exact ⟨a + 1, l.length, 0, 0, W1.heap.size, [], by first | rfl | go_num, rfl, Nat.le_refl _, by omega, by rw [show a + 1 - a = 1 by omega]; exact sq_start l, HOW.out, Nat.zero_le _, HB1.out⟩
  case round =>
    clear HOW HB1
    obtain ⟨k, f, n, c, g, bs, rfl, rfl, hak, hks, hsq, hown, hnk, hbw⟩ := hrel
    have HSQ := Lib.hid hsq
    have HOWN := Lib.hid hown
    have HBW := Lib.hid hbw
    have HZ2 := Lib.hid ((hbw.block w.heap.size (by omega)).trans HZ.out)
    have HB2 := Lib.hid (show Below w.heap.size w wr from HB.out.trans (hbw.mono (Nat.le_succ _)))
    have hwsz := hbw.size
    have hln := hown.len
    clear hsq hown hbw
    have hsz1 := HS1.out
    have hbase : w.heap.size + 1 ≤ wr.heap.size := by omega
    clear hsz1
    have hn7 : (n : Int) ≤ 10000000 := by omega
    by_cases hlt : k < s.size
    · obtain ⟨c0, r, hd, hc, hr⟩ := drop_bt hlt
      have hdd : s.data.toList.drop k = l.drop (k - a) := by rw [← HL.out, List.drop_drop, show a + (k - a) = k by omega]
      rw [hdd] at hd
      have hb0 := bt_nonneg s k
      have hb1 := bt_le s k
      have hki : (k : Int) < (s.size : Int) := by omega
      by_cases h34 : bt s k = 34
      · have e34 : (bt s k != 34) = false := by simpa using h34
        have HEND := Lib.hid (sq_end HSQ.out hd (by omega) (by omega))
        have hcv := conv_own HOWN.out
        clear hd hc hr hdd h34
        obtain ⟨⟨z0, z1, z2, z3⟩, fz, yz⟩ := four_cellsT HZ2.out
        by_cases h1024 : bs.length ≤ 1024
        · have hni : (n : Int) ≤ 1024 := by omega
          have HV := Lib.hid (show RsV a (scSt l) (.tuple #[.agg #[.int .i64 5, .string (bsB bs), .int .i64 0, .int .i64 a], .int .i64 ((k : Int) + 1), .bool true]) by
            rw [ss_yes HEND.out h1024]
            exact RsV.yes rfl rfl rfl rfl (by simp only; omega))
          clear h1024 hln
          go_wp2
          refine bodyPost_ret (tk_ret3 rfl rfl (set_fourT HZ2.out)) rfl ?_
          exact ⟨⟨_, rfl, HV.out⟩, four_belowT HB2.out (Nat.le_refl _)⟩
        · have hni : decide ((n : Int) ≤ 1024) = false := decide_eq_false (by omega)
          have hnj : decide (n ≤ 1024) = false := decide_eq_false (by omega)
          have HV := Lib.hid (show RsV a (scSt l) (.tuple #[.agg #[.int .i64 5, .string (bsB bs), .int .i64 0, .int .i64 a], .int .i64 ((k : Int) + 1), .bool false]) from RsV.no (ss_no HEND.out h1024))
          clear h1024 hln
          go_wp2
          refine bodyPost_ret (tk_ret3 rfl rfl (set_fourT HZ2.out)) rfl ?_
          exact ⟨⟨_, rfl, HV.out⟩, four_belowT HB2.out (Nat.le_refl _)⟩
      · have e34 : (bt s k != 34) = true := by simpa using h34
        have hst := ch_step HSQ.out (by omega) hd (by omega)
        obtain ⟨cb, cn, hch⟩ : ∃ cb cn, chV (c0 :: r) = (cb, cn) := ⟨_, _, rfl⟩
        have KC := Lib.hid (fun W => (by have h := rchar_any s k (by omega) hlt W; rw [hdd, hd, chO, hch] at h; exact h : Calls Tryz.prog 73 #[.string s, .int .i64 (k : Int)] W fun e w' => e = .returned (.tuple #[.int .u8 (cb.toNat : Int), .int .i64 (cn : Int)]) ∧ ∃ q, w' = W.drewN q))
        rw [hch] at hst
        simp only at hst
        clear hd hc hr hdd h34 hch
        rcases hst with ⟨h0, hno⟩ | ⟨hpos, hle, hnx⟩
        · subst h0
          have HV := Lib.hid (show RsV a (scSt l) (.tuple #[.agg #[.int .i64 0, .string ⟨#[]⟩, .int .i64 0, .int .i64 0], .int .i64 0, .bool false]) from RsV.no hno)
          clear hno hln
          go_wp2_with (first | (go_at_call 73; refine (KC.out _).mono ?_; rintro e w9 ⟨rfl, q, rfl⟩; have HZ3 := Lib.hid (tok_dr HZ2.out q); obtain ⟨⟨z0, z1, z2, z3⟩, fz, yz⟩ := four_cellsT HZ3.out; have HB3 := Lib.hid (below_dr HB2.out q)))
          refine bodyPost_ret (tk_ret3 rfl rfl (set_fourT HZ3.out)) rfl ?_
          exact ⟨⟨_, rfl, HV.out⟩, four_belowT HB3.out (Nat.le_refl _)⟩
        · have hne : ((cn : Int) == 0) = false := by rw [beq_eq_false_iff_ne]; omega
          have HNX := Lib.hid hnx
          have hle2 : k + cn ≤ s.size := by rw [HLL.out] at hle; omega
          have HCN := Lib.hid hpos
          clear hnx hle hln hpos
          go_wp2_with (first | (go_at_call 73; refine (KC.out _).mono ?_; rintro e w9 ⟨rfl, q, rfl⟩; have HO3 := Lib.hid (HOWN.out.below (below_dr (Below.refl _ _) q)); have HW3 := Lib.hid (below_drB HBW.out q)) | (at_builtin; refine append_uF (by rfl) _ _ (by rfl) (by rfl) (HO3.out.below (below_al (Below.refl _ _) _)) (by rfl) (newU cb _ rfl) (by omega) (by simp; omega) ?_; intro A2 c2 w8 hO8 hb8 hg8))
          have hcn := HCN.out
          obtain ⟨g2, cap, hv, _, _⟩ := hO8.own.form (Nat.succ_pos n)
          obtain rfl : A2 = some ⟨g2, 0, none⟩ := by injection hv
          refine ⟨⟨k + cn, f - 1, n + 1, c2, g2, bs ++ [cb], by go_num, rfl, by omega, hle2, by rw [show k + cn - a = k - a + cn by omega]; exact HNX.out, hO8, by omega, (HW3.out.alloc hbase _).trans hb8⟩, ?_⟩
          simp [intOf]; omega
    · obtain rfl : k = s.size := by omega
      have HV := Lib.hid (fun (q e : Int) (t : ByteArray) => (RsV.no (sq_nil HSQ.out (List.drop_eq_nil_of_le (by rw [HLL.out]; omega))) : RsV a (scSt l) (.tuple #[.agg #[.int .i64 q, .string t, .int .i64 0, .int .i64 a], .int .i64 e, .bool false])))
      have hcv := conv_own HOWN.out
      obtain ⟨⟨z0, z1, z2, z3⟩, fz, yz⟩ := four_cellsT HZ2.out
      clear hln
      go_wp2
      refine bodyPost_ret (tk_ret3 rfl rfl (set_fourT HZ2.out)) rfl ?_
      exact ⟨⟨_, rfl, HV.out _ _ _⟩, four_belowT HB2.out (Nat.le_refl _)⟩

end Go.Proofs.YtfpdnhbbbadegaaGreatDoor
