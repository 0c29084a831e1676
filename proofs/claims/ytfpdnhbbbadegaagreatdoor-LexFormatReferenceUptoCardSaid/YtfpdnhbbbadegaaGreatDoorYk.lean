/- Layer 53: scanString. (gen/yk.py) -/
import Derived.Test.YtfpdnhbbbadegaaGreatDoorYf
import Derived.Test.YtfpdnhbbbadegaaGreatDoorYj
namespace Go.Proofs.YtfpdnhbbbadegaaGreatDoor
open Go.ChangeShapes Go.WideShapes Go.ChangeAt Go.RowKit Go.PlainAid
set_option linter.unusedSimpArgs false
set_option linter.unusedVariables false

/-- a string, read as far as k bytes: the bytes so far -/
def StQ (l : List UInt8) (k f : Nat) (a : List UInt8) : Prop := (l.drop k).length ≤ f ∧ strGo l.length (l.drop 1) = (strGo f (l.drop k)).map fun x => (a ++ x.1, (k - 1) + x.2)
theorem sq_start (l : List UInt8) : StQ l 1 l.length [] := by
  refine ⟨by rw [List.length_drop]; omega, ?_⟩
  cases strGo l.length (l.drop 1) with
  | none => rfl
  | some x => obtain ⟨b, z⟩ := x; simp
theorem ss_none {l : List UInt8} (h : strGo l.length (l.drop 1) = none) : scSt l = none := by unfold scSt; rw [h]
theorem ss_some {l b : List UInt8} {z : Nat} (h : strGo l.length (l.drop 1) = some (b, z)) : scSt l = if b.length ≤ 1024 then some ⟨5, b, 0, 1 + z⟩ else none := by unfold scSt; rw [h]
theorem sq_nil {l a : List UInt8} {k f : Nat} (h : StQ l k f a) (hd : l.drop k = []) : scSt l = none := by
  refine ss_none ?_
  rw [h.2, hd]
  cases f <;> rfl
theorem sq_f {l a r : List UInt8} {k f : Nat} {c : UInt8} (h : StQ l k f a) (hd : l.drop k = c :: r) : ∃ g, f = g + 1 ∧ r.length ≤ g ∧ strGo l.length (l.drop 1) = (strGo (g + 1) (c :: r)).map fun x => (a ++ x.1, (k - 1) + x.2) := by
  obtain ⟨hf, hq⟩ := h
  rw [hd] at hf hq
  rw [List.length_cons] at hf
  obtain ⟨g, rfl⟩ : ∃ g, f = g + 1 := ⟨f - 1, by omega⟩
  exact ⟨g, rfl, by omega, hq⟩
theorem drop_succ8 {l r : List UInt8} {k : Nat} {c : UInt8} (hd : l.drop k = c :: r) (n : Nat) : l.drop (k + 1 + n) = r.drop n := by
  have h : l.drop (k + 1) = r := by rw [← List.drop_drop, hd]; rfl
  rw [← h, List.drop_drop]
theorem sq_end {l a r : List UInt8} {k f : Nat} {c : UInt8} (h : StQ l k f a) (hd : l.drop k = c :: r) (hk : 1 ≤ k) (hc : c.toNat = 34) : scSt l = if a.length ≤ 1024 then some ⟨5, a, 0, k + 1⟩ else none := by
  obtain ⟨g, rfl, hg, hq⟩ := sq_f h hd
  rw [str_cons, if_pos hc] at hq
  rw [ss_some hq, List.append_nil, show 1 + (k - 1 + 1) = k + 1 by omega]
theorem sq_bad {l a r : List UInt8} {k f : Nat} {c : UInt8} (h : StQ l k f a) (hd : l.drop k = c :: r) (hc : c.toNat ≠ 34) (h2 : c.toNat < 32 ∨ 126 < c.toNat) : scSt l = none := by
  obtain ⟨g, rfl, hg, hq⟩ := sq_f h hd
  rw [str_cons, if_neg hc, if_pos h2] at hq
  exact ss_none hq
theorem sq_esc0 {l a r : List UInt8} {k f : Nat} {c : UInt8} (h : StQ l k f a) (hd : l.drop k = c :: r) (hc : c.toNat = 92) (he : escL r = none) : scSt l = none := by
  obtain ⟨g, rfl, hg, hq⟩ := sq_f h hd
  rw [str_cons, if_neg (by omega), if_neg (by omega), if_pos hc, he] at hq
  exact ss_none hq
theorem sq_esc {l a r : List UInt8} {k f : Nat} {c e : UInt8} {n : Nat} (h : StQ l k f a) (hk : 1 ≤ k) (hd : l.drop k = c :: r) (hc : c.toNat = 92) (he : escL r = some (e, n)) : StQ l (k + 1 + n) (f - 1) (a ++ [e]) := by
  obtain ⟨g, rfl, hg, hq⟩ := sq_f h hd
  rw [str_cons, if_neg (by omega), if_neg (by omega), if_pos hc, he] at hq
  refine ⟨by rw [drop_succ8 hd, List.length_drop]; omega, ?_⟩
  rw [hq, drop_succ8 hd]
  show Option.map _ (Option.map _ (strGo g (r.drop n))) = Option.map _ (strGo g (r.drop n))
  cases strGo g (r.drop n) with
  | none => rfl
  | some x =>
    obtain ⟨b, z⟩ := x
    simp only [Option.map_some, List.append_assoc, List.cons_append, List.nil_append]
    rw [show k - 1 + (1 + n + z) = k + 1 + n - 1 + z by omega]
theorem sq_one {l a r : List UInt8} {k f : Nat} {c : UInt8} (h : StQ l k f a) (hk : 1 ≤ k) (hd : l.drop k = c :: r) (h1 : c.toNat ≠ 34) (h2 : ¬ (c.toNat < 32 ∨ 126 < c.toNat)) (h3 : c.toNat ≠ 92) : StQ l (k + 1) (f - 1) (a ++ [c]) := by
  obtain ⟨g, rfl, hg, hq⟩ := sq_f h hd
  rw [str_cons, if_neg h1, if_neg h2, if_neg h3] at hq
  have e := drop_succ8 hd 0
  rw [Nat.add_zero, List.drop_zero] at e
  refine ⟨by rw [e]; omega, ?_⟩
  rw [hq, e]
  show Option.map _ (Option.map _ (strGo g r)) = Option.map _ (strGo g r)
  cases strGo g r with
  | none => rfl
  | some x =>
    obtain ⟨b, z⟩ := x
    simp only [Option.map_some, List.append_assoc, List.cons_append, List.nil_append]
    rw [show k - 1 + (1 + z) = k + 1 - 1 + z by omega]
theorem ss_yes {l a : List UInt8} {k : Nat} (h : scSt l = if a.length ≤ 1024 then some ⟨5, a, 0, k + 1⟩ else none) (ha : a.length ≤ 1024) : scSt l = some ⟨5, a, 0, k + 1⟩ := h.trans (if_pos ha)
theorem ss_no {l a : List UInt8} {k : Nat} (h : scSt l = if a.length ≤ 1024 then some ⟨5, a, 0, k + 1⟩ else none) (ha : ¬ a.length ≤ 1024) : scSt l = none := h.trans (if_neg ha)

abbrev Blt1 (w wr : World) (l : List UInt8) : Prop := Lib.IsBuilder 58 5 (w.heap.size + 1) (w.heap.size + 1) (Lib.byteCells l) wr
theorem isb_used1 {w w1 : World} {bs : List Value} (h : Lib.BuilderAt 58 5 (w.heap.size + 1) (w.heap.size + 1) (.pointer (some ⟨w.heap.size + 1, 0, none⟩)) bs w1) : Lib.IsBuilder 58 5 (w.heap.size + 1) (w.heap.size + 1) bs w1 := Or.inr h
theorem isb_as1 {w w1 : World} {bs bs' : List Value} (h : Lib.IsBuilder 58 5 (w.heap.size + 1) (w.heap.size + 1) bs w1) (e : bs = bs') : Lib.IsBuilder 58 5 (w.heap.size + 1) (w.heap.size + 1) bs' w1 := e ▸ h
theorem isb_dr {B b : Nat} {w1 : World} {bs : List Value} (h : Lib.IsBuilder 58 5 B b bs w1) (q : Nat) : Lib.IsBuilder 58 5 B b bs (w1.drewN q) := h
theorem below_drB {B : Nat} {w W : World} (h : Below B w W) (q : Nat) : Below B w (W.drewN q) := ⟨h.os, h.tape, h.output, h.size, h.block⟩
theorem tok_dr {w1 : World} {B : Nat} {o : Obj} (h : w1.heap[B]? = some o) (q : Nat) : (w1.drewN q).heap[B]? = some o := h
theorem tok_keep {w wr w1 : World} {o : Obj} (h : wr.heap[w.heap.size]? = some o) (hb : Below (w.heap.size + 1) wr w1) : w1.heap[w.heap.size]? = some o := (hb.block _ (Nat.lt_succ_self _)).trans h
theorem blt1_new (w : World) (o : Obj) : Blt1 w ((w.alloc o).alloc (.cells #[.pointer none, .slice none 0 0] 58)) [] := by
  refine Or.inl ⟨Nat.le_refl _, .slice none 0 0, ?_, World.ownsRow_nil _ _ _ _, by simp [Value.ownBlock]⟩
  have := heap_alloc_new (w.alloc o) (.cells #[.pointer none, .slice none 0 0] 58)
  rwa [World.size_alloc] at this
set_option maxRecDepth 100000 in
set_option maxHeartbeats 4000000 in
theorem scanString_any (s : ByteArray) (hs : s.size ≤ 5000000) (h0 : 0 < s.size) (w : World) : Calls Tryz.prog 40 #[.string s] w fun e w' => e = .returned (scV (scSt s.data.toList)) ∧ Below w.heap.size w w' := by
  have hb := get_bt s
  have hlen := len_data s
  obtain ⟨l, hl⟩ : ∃ l, s.data.toList = l := ⟨_, rfl⟩
  obtain ⟨V, hV⟩ : ∃ V, scV (scSt s.data.toList) = V := ⟨_, rfl⟩
  have HV := Lib.hid (show scV (scSt l) = V by rw [← hl]; exact hV)
  rw [hV]
  have HL := Lib.hid hl
  rw [hl] at hlen
  have HC0 := Lib.hid (blt1_new w (.cells #[.int .i64 0, .string ⟨#[]⟩, .int .i64 0, .int .i64 0] 27))
  have HB0 := Lib.hid ((Below.refl (w.heap.size + 1) (w.alloc (.cells #[.int .i64 0, .string ⟨#[]⟩, .int .i64 0, .int .i64 0] 27))).alloc (by simp) (.cells #[.pointer none, .slice none 0 0] 58))
  have HZ0 := Lib.hid (World.alloc_heap_new w (.cells #[.int .i64 0, .string ⟨#[]⟩, .int .i64 0, .int .i64 0] 27))
  clear hV hl
  go_enter Tryz.func40, Tryz.ntmps40
  go_wp2
  go_loopw [5] (fun i wr => ∃ (k f : Nat) (a : List UInt8), k ≤ s.size ∧ 1 ≤ k ∧ i = .int .i64 k ∧ a.length + 1 ≤ k ∧ StQ l k f a ∧ Blt1 w wr a ∧ Below (w.heap.size + 1) (w.alloc (.cells #[.int .i64 0, .string ⟨#[]⟩, .int .i64 0, .int .i64 0] 27)) wr) (fun i _ => s.size - (intOf i).toNat)
  case atStart => exact ⟨1, l.length, [], by omega, Nat.le_refl _, rfl, Nat.le_refl _, sq_start l, HC0.out, HB0.out⟩
  case round =>
    obtain ⟨k, f, a, hk, hk1, rfl, ha, hq, hC, hB⟩ := hrel
    have HQ := Lib.hid hq
    have HC := Lib.hid hC
    have HBW := Lib.hid hB
    have HZ := Lib.hid (tok_keep HZ0.out hB)
    clear hq hC hB
    by_cases hlt : k < s.size
    · obtain ⟨c, r, hd, hc, hr⟩ := drop_bt hlt
      rw [HL.out] at hd hr
      have hb0 := bt_nonneg s k
      have hb1 := bt_le s k
      have hrl : r.length + (k + 1) = s.size := by
        have := congrArg List.length hd
        rw [List.length_drop, List.length_cons] at this
        omega
      have HD := Lib.hid hd
      have HCC := Lib.hid hc
      have HR := Lib.hid hr
      clear hd hc hr
      by_cases h34 : bt s k = 34
      · have e34 : (bt s k == 34) = true := by simpa using h34
        have HE := Lib.hid (sq_end HQ.out HD.out hk1 (by have := HCC.out; omega))
        clear h34
        by_cases h24 : a.length ≤ 1024
        · have h24' : ¬ (1024 < (a.length : Int)) := by omega
          have HN := Lib.hid (show V = .tuple #[.agg #[.int .i64 5, .string (bsB a), .int .i64 0, .int .i64 0], .int .i64 ((k + 1 : Nat) : Int)] by rw [← HV.out, ss_yes HE.out h24]; rfl)
          obtain ⟨⟨z0, z1, z2, z3⟩, fz, yz⟩ := four_cellsT HZ.out
          go_wp2_with (first | (go_at_call 68; refine (Tryz.Builder_Len (w.heap.size + 1) (w.heap.size + 1) (Lib.byteCells a) _ HC.out).mono ?_; rintro e w1 ⟨rfl, rfl⟩; rw [Lib.byteCells_length]) | (go_at_call 53; refine (Tryz.Builder_String_any (w.heap.size + 1) (w.heap.size + 1) a _ HC.out (Nat.le_trans (by simp) HBW.out.size)).mono ?_; rintro e w1 ⟨rfl, hbb⟩; have HZ := Lib.hid (tok_keep HZ.out hbb); have HBW := Lib.hid (HBW.out.trans hbb); clear hbb; obtain ⟨⟨z0, z1, z2, z3⟩, fz, yz⟩ := four_cellsT HZ.out))
          refine bodyPost_ret (tk_ret rfl rfl (set_fourT HZ.out)) rfl ?_
          exact ⟨by rw [HN.out]; rfl, four_belowT ((below_al (Below.refl w.heap.size w) _).trans (HBW.out.mono (Nat.le_succ _))) (Nat.le_refl _)⟩
        · have h24' : 1024 < (a.length : Int) := by omega
          have HN := Lib.hid (show V = .tuple #[.agg #[.int .i64 0, .string ⟨#[]⟩, .int .i64 0, .int .i64 0], .int .i64 0] by rw [← HV.out, ss_no HE.out h24]; rfl)
          clear h24
          obtain ⟨⟨z0, z1, z2, z3⟩, fz, yz⟩ := four_cellsT HZ.out
          go_wp2_with (first | (go_at_call 68; refine (Tryz.Builder_Len (w.heap.size + 1) (w.heap.size + 1) (Lib.byteCells a) _ HC.out).mono ?_; rintro e w1 ⟨rfl, rfl⟩; rw [Lib.byteCells_length]))
          refine bodyPost_ret (tk_ret rfl rfl (set_fourT HZ.out)) rfl ?_
          exact ⟨by rw [HN.out]; rfl, four_belowT ((below_al (Below.refl w.heap.size w) _).trans (HBW.out.mono (Nat.le_succ _))) (Nat.le_refl _)⟩
      · have e34 : (bt s k == 34) = false := by simpa using h34
        by_cases h32 : bt s k < 32
        · have HN := Lib.hid (show V = .tuple #[.agg #[.int .i64 0, .string ⟨#[]⟩, .int .i64 0, .int .i64 0], .int .i64 0] by rw [← HV.out, sq_bad HQ.out HD.out (by have := HCC.out; omega) (by have := HCC.out; omega)]; rfl)
          clear h34
          obtain ⟨⟨z0, z1, z2, z3⟩, fz, yz⟩ := four_cellsT HZ.out
          go_wp2
          refine bodyPost_ret (tk_ret rfl rfl (set_fourT HZ.out)) rfl ?_
          exact ⟨by rw [HN.out]; rfl, four_belowT ((below_al (Below.refl w.heap.size w) _).trans (HBW.out.mono (Nat.le_succ _))) (Nat.le_refl _)⟩
        · by_cases h126 : 126 < bt s k
          · have HN := Lib.hid (show V = .tuple #[.agg #[.int .i64 0, .string ⟨#[]⟩, .int .i64 0, .int .i64 0], .int .i64 0] by rw [← HV.out, sq_bad HQ.out HD.out (by have := HCC.out; omega) (by have := HCC.out; omega)]; rfl)
            clear h34
            obtain ⟨⟨z0, z1, z2, z3⟩, fz, yz⟩ := four_cellsT HZ.out
            go_wp2
            refine bodyPost_ret (tk_ret rfl rfl (set_fourT HZ.out)) rfl ?_
            exact ⟨by rw [HN.out]; rfl, four_belowT ((below_al (Below.refl w.heap.size w) _).trans (HBW.out.mono (Nat.le_succ _))) (Nat.le_refl _)⟩
          · by_cases h92 : bt s k = 92
            · have e92 : (bt s k == 92) = true := by simpa using h92
              have hk2 : k + 1 ≤ s.size := by omega
              have KE := Lib.hid (fun W => (by have h := esc_any (s.extract (k + 1) s.size) (by rw [ByteArray.size_extract]; omega) W; rw [extract_drop hk2, HL.out, show l.drop (k + 1) = r from HR.out] at h; exact h : Calls Tryz.prog 69 #[.string (s.extract (k + 1) s.size)] W fun e w' => e = .returned (esV r) ∧ ∃ q, w' = W.drewN q))
              cases he : escL r with
              | none =>
                have HES := Lib.hid (es_none he)
                have HN := Lib.hid (show V = .tuple #[.agg #[.int .i64 0, .string ⟨#[]⟩, .int .i64 0, .int .i64 0], .int .i64 0] by rw [← HV.out, sq_esc0 HQ.out HD.out (by have := HCC.out; omega) he]; rfl)
                clear h34 h92 he
                obtain ⟨⟨z0, z1, z2, z3⟩, fz, yz⟩ := four_cellsT HZ.out
                go_wp2_with (first | (go_at_call 69; refine (KE.out _).mono ?_; rintro e w1 ⟨rfl, q, rfl⟩; rw [HES.out]; have HC := Lib.hid (isb_dr HC.out q); have HBW := Lib.hid (below_drB HBW.out q); have HZ := Lib.hid (tok_dr HZ.out q); obtain ⟨⟨z0, z1, z2, z3⟩, fz, yz⟩ := four_cellsT HZ.out))
                refine bodyPost_ret (tk_ret rfl rfl (set_fourT HZ.out)) rfl ?_
                exact ⟨by rw [HN.out]; rfl, four_belowT ((below_al (Below.refl w.heap.size w) _).trans (HBW.out.mono (Nat.le_succ _))) (Nat.le_refl _)⟩
              | some x =>
                obtain ⟨e, n⟩ := x
                have HES := Lib.hid (es_some he)
                have hbd := esc_bd he
                simp only at hbd
                have hne : ((n : Int) == 0) = false := by rw [beq_eq_false_iff_ne]; omega
                have HNX := Lib.hid (sq_esc HQ.out hk1 HD.out (by have := HCC.out; omega) he)
                clear h34 h92 he
                obtain ⟨⟨z0, z1, z2, z3⟩, fz, yz⟩ := four_cellsT HZ.out
                go_wp2_with (first | (go_at_call 69; refine (KE.out _).mono ?_; rintro e w1 ⟨rfl, q, rfl⟩; rw [HES.out]; have HC := Lib.hid (isb_dr HC.out q); have HBW := Lib.hid (below_drB HBW.out q); have HZ := Lib.hid (tok_dr HZ.out q); obtain ⟨⟨z0, z1, z2, z3⟩, fz, yz⟩ := four_cellsT HZ.out) | (go_at_call 51; refine (wbyte_any (w.heap.size + 1) (w.heap.size + 1) _ _ _ HC.out (by simp only [List.length_append, List.length_cons, List.length_nil, Lib.byteCells_length] <;> omega) (Nat.le_trans (by simp) HBW.out.size)).mono ?_; rintro e w1 ⟨rfl, hbl, hbb⟩; have HC := Lib.hid (isb_used1 hbl); have HBW := Lib.hid (HBW.out.trans hbb); clear hbl hbb))
                refine ⟨⟨k + 1 + n, _, _, by omega, by omega, by first | rfl | go_num, by simp only [List.length_append, List.length_cons, List.length_nil]; omega, HNX.out, isb_as1 HC.out (by simp [Lib.byteCells]), HBW.out⟩, ?_⟩
                simp [intOf]; omega
            · have e92 : (bt s k == 92) = false := by simpa using h92
              have HNX := Lib.hid (sq_one HQ.out hk1 HD.out (by have := HCC.out; omega) (by have := HCC.out; omega) (by have := HCC.out; omega))
              clear h34 h92
              go_wp2_with (first | (go_at_call 51; refine (wbyte_any (w.heap.size + 1) (w.heap.size + 1) _ _ _ HC.out (by simp only [List.length_append, List.length_cons, List.length_nil, Lib.byteCells_length] <;> omega) (Nat.le_trans (by simp) HBW.out.size)).mono ?_; rintro e w1 ⟨rfl, hbl, hbb⟩; have HC := Lib.hid (isb_used1 hbl); have HBW := Lib.hid (HBW.out.trans hbb); clear hbl hbb))
              refine ⟨⟨k + 1, _, _, by omega, by omega, by first | rfl | go_num, by simp only [List.length_append, List.length_cons, List.length_nil]; omega, HNX.out, isb_as1 HC.out (by simp [Lib.byteCells, HCC.out]), HBW.out⟩, ?_⟩
              simp [intOf]; omega
    · obtain rfl : k = s.size := by omega
      have HN := Lib.hid (show V = .tuple #[.agg #[.int .i64 0, .string ⟨#[]⟩, .int .i64 0, .int .i64 0], .int .i64 0] by rw [← HV.out, sq_nil HQ.out (List.drop_eq_nil_of_le (by omega))]; rfl)
      obtain ⟨⟨z0, z1, z2, z3⟩, fz, yz⟩ := four_cellsT HZ.out
      go_wp2
      refine bodyPost_ret (tk_ret rfl rfl (set_fourT HZ.out)) rfl ?_
      exact ⟨by rw [HN.out]; rfl, four_belowT ((below_al (Below.refl w.heap.size w) _).trans (HBW.out.mono (Nat.le_succ _))) (Nat.le_refl _)⟩

end Go.Proofs.YtfpdnhbbbadegaaGreatDoor
