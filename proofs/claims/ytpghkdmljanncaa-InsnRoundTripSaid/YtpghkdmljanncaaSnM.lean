import Derived.Test.YtpghkdmljanncaaDsM

/- InSn -/
/- Layer 8: scan. -/
namespace Go.Proofs.Ytpghkdmljanncaa
open Go.ChangeShapes Go.WideShapes Go.ChangeAt Go.RowKit Go.PlainAid
set_option linter.unusedSimpArgs false
set_option linter.unusedVariables false

def ScanRet (w : World) (s : ByteArray) (e : Ending) (w' : World) : Prop :=
  ∃ v v2 M P, e = .returned (.tuple #[v, v2, .int .i64 (scA s 0).2]) ∧ ((scA s 0).2 = 0 → DecI w w' M v P v2 ∧ Scd s s.size M P) ∧ Below w.heap.size w w'
theorem sn_no {w w' : World} {s : ByteArray} {v v2 : Value} {x : Int} (h : (scA s 0).2 = x) (h0 : x ≠ 0) (hb : Below w.heap.size w w') : ScanRet w s (.returned (.tuple #[v, v2, .int .i64 x])) w' :=
  ⟨v, v2, [], [], by rw [h], fun e => absurd (h.symm.trans e) h0, hb⟩
theorem sn_ok {w w' : World} {s : ByteArray} {v v2 : Value} {M : List In} {P : List Int} (h : Scd s s.size M P) (hI : DecI w w' M v P v2) : ScanRet w s (.returned (.tuple #[v, v2, .int .i64 0])) w' :=
  ⟨v, v2, M, P, by rw [(h.end (Int.le_refl _)).1], fun _ => ⟨hI, h⟩, hI.bel⟩
/-- the next one is cut -/
theorem sn_cut {s : ByteArray} {q : Nat} {M : List In} {P : List Int} {op : Int} (h : Scd s q M P) (hq : q < s.size) (ho : bt s q = op) (hk : 0 ≤ kindV op) (hn : ndV s q op < 0) : (scA s 0).2 = 3 := by
  have ho' : bt s (q : Int).toNat = op := by rw [Int.toNat_natCast]; exact ho
  rw [h.e, scA_cut (by omega) (by rw [ho']; omega) (by rw [ho']; exact hn)]
theorem sn_next {s : ByteArray} {q : Nat} {M : List In} {P : List Int} {op : Int} {i : In} {z : Int} {q' : Nat} (h : Scd s q M P) (hq : q < s.size) (ho : bt s q = op) (hk : 0 ≤ kindV op) (hn : ndV s q op = z) (hz : 0 ≤ z) (hi : i.core = tkC s q op) (hq' : (q' : Int) = q + z) : Scd s q' (M ++ [i]) (P ++ [(q : Int)]) := by
  have ho' : bt s (q : Int).toNat = op := by rw [Int.toNat_natCast]; exact ho
  have := h.next (i := i) (by omega) (by omega) (by rw [ho']; omega) (by rw [ho', hn]; omega) (by rw [ho']; exact hi)
  rw [ho', hn, ← hq'] at this
  exact this
theorem grown_drew {w w' : World} {r : Option Nat} (h : w.drew.grownBy w' r) : w.grownBy w' r := ⟨h.os, h.tape, h.output, h.size, h.block⟩
/-- what the head of a switch says -/
structure Hdr (s : ByteArray) (q : Nat) (L : Int) (n : Nat) (sh : Bool) : Prop where
  z : sh = true → n = 0
  le : sh = false → (q : Int) + L ≤ s.size
theorem not_le {a b : Int} (h : a ≤ b) : ¬ b < a := by omega
set_option maxRecDepth 100000 in
set_option maxHeartbeats 60000000 in
theorem scan_any (s : ByteArray) (hs : s.size ≤ 100000) (w : World) : Calls Try.prog 64 #[.string s] w (ScanRet w s) := by
  go_enter Try.func64, Try.ntmps64
  go_wp2
  go_step3
  go_upto_region 4 with fail
  have hB := below_al (Below.refl w.heap.size w) (.cells #[.string s, .int .i64 0, .bool false] 98)
  have hR := World.alloc_heap_new w (.cells #[.string s, .int .i64 0, .bool false] 98)
  generalize w.alloc (.cells #[.string s, .int .i64 0, .bool false] 98) = W1 at hB hR ⊢
  have RD := Lib.hid (show Rd W1 w.heap.size s 0 false from hR)
  have HB := Lib.hid hB
  clear hR hB
  go_wp2
  go_step3
  go_wp2
  go_loopw [5, 6, 8] (fun l pl e wr => ∃ (q : Nat) (M : List In) (P : List Int), e = .int .i64 0 ∧ q ≤ s.size ∧ M.length ≤ q ∧ DecI w wr M l P pl ∧ Scd s q M P ∧ Rd wr w.heap.size s q false) (fun l _ _ _ => s.size - lenV l)
  case atStart => exact ⟨0, [], [], rfl, Nat.zero_le _, Nat.zero_le _, ⟨World.ownsRow_nil _ _ _ _, World.ownsRow_nil _ _ _ _, (fun i hi => by cases hi), List.Pairwise.nil, (fun i hi => by cases hi), HB.out⟩, Scd.start s, RD.out⟩
  case round =>
    clear RD HB
    obtain ⟨q, M, P, rfl, hq, hM, I, hsc, hrd⟩ := hrel
    obtain ⟨A, c, rfl, _, _, _⟩ := own_form I.own
    obtain ⟨A2, c2, rfl, _, _, _⟩ := own_form I.pl
    have HI := Lib.hid I
    have HSC := Lib.hid hsc
    have HPL := Lib.hid (show P.length ≤ 1000000 by have := hsc.len; omega)
    obtain ⟨c0, c1, c2', f0, f1, f2⟩ := three_cells hrd
    have hbz := lt_heap hrd
    have RD := Lib.hid hrd
    clear I hsc hrd
    by_cases hlt : q < s.size
    · have hk0 : (0 : Int) ≤ (q : Int) := by omega
      have hk1 : (q : Int) < (s.size : Int) := by omega
      obtain ⟨o, hoo⟩ : ∃ o, bt s q = o := ⟨_, rfl⟩
      have HOO := Lib.hid hoo
      have HU1 := Lib.hid (show rdV s (q : Int) 1 false = o by
        have := (uns1 (s := s) (p := (q : Int)) (by omega) (by omega)).1
        rw [Int.toNat_natCast, hoo] at this
        exact this)
      have HB1 := Lib.hid ((rdB_iff (s := s) (p := (q : Int)) ok1 (by omega)).2 (by omega))
      go_upto_region 7 with (at_builtin; refine wpList_append_lies_ints (by rfl) _ _ (by rfl) w.heap.size P.length 1 P q _ _ (by rfl) (HI.out.pl.alloc _) (by rfl) (Row.one (ten_cell0 (new_at rfl)) (by simp)) (by have := HPL.out; omega) (by have := HI.out.bel.size; simp; omega) ?_; intro A6 c6 w4 ho4 hg4 hl4)
      have I4 := DecI.place (HI.out.below (below_al (Below.refl _ _) _)) ho4 hg4 hl4
      have RD4 := Lib.hid (rd_grown (rd_alloc RD.out _) hg4 (fun e => own_not HI.out.pl RD.out neRI e))
      have hz4 := hg4.size
      simp only [World.size_alloc] at hz4
      have HI4 := Lib.hid I4
      clear I4 ho4 hg4 hl4 c0 c1 c2' f0 f1 f2 hoo
      go_upto_region 8 with (go_at_call 92; refine (number_any w.heap.size s q 1 false false _ RD4.out (by omega) (by omega) (by omega) (by omega) (by omega)).mono ?_; rintro e w3 ⟨rfl, hrd3, hg3⟩; rw [HU1.out])
      rw [HB1.out] at hrd3
      replace hrd3 : Rd w3 w.heap.size s ((q : Int) + 1) false := hrd3
      have MI := Lib.hid (Mid.start (op := o) (HI4.out.grown1 hg3 (Nat.le_refl _) (own_notk HI4.out.own RD4.out neRN) (own_not HI4.out.pl RD4.out neRI) (fun j hj b hb => blk_rd (HI4.out.held j hj) RD4.out hb)) hrd3)
      have hb3 : w.heap.size < w3.heap.size := lt_heap hrd3
      generalize hB : w3.heap.size = B at MI hb3 ⊢
      generalize hW : w3.alloc (.cells #[.int .i64 o, .int .i64 0, .int .i64 0, .int .i64 0, .slice none 0 0, .slice none 0 0, .string ⟨#[]⟩, .string ⟨#[]⟩, .string ⟨#[]⟩, .string ⟨#[]⟩] 26) = W at MI ⊢
      clear hW hB hrd3 hg3 hz4 RD4 HI4 RD HI HU1 HB1
      have hbx := MI.out.box
      unfold icells inP at hbx
      obtain ⟨b0, b1, b2, b3, b4, b5, b6, b7, b8, b9⟩ := ten_cells hbx
      obtain ⟨c0, c1, c2', f0, f1, f2⟩ := three_cells MI.out.rd
      have hBW := lt_heap hbx
      have hRW := lt_heap MI.out.rd
      have fz := frozenT hbx
      clear hbx
      rcases kind_bd o with hk | hk | hk | hk | hk | hk | hk | hk | hk
      · have HK := Lib.hid hk
        clear hk
        have HX := Lib.hid (show (scA s 0).2 = 15 by
          have ho' : bt s (q : Int).toNat = o := by rw [Int.toNat_natCast]; exact HOO.out
          rw [HSC.out.e, scA_op (by omega) (by rw [ho', HK.out]; decide)])
        go_wp2_with (go_at_call 47; refine (kind_any _ _).mono ?_; rintro e w' ⟨rfl, rfl⟩; rw [HK.out])
        all_goals (try rw [Exit.noGoto_ret])
        all_goals go_ret3
        exact sn_no HX.out (by decide) MI.out.I.bel
      · have HK := Lib.hid hk
        clear hk
        have HN := Lib.hid (show ndV s q o = 1 by rw [nd_plain (z := 1) (by rw [HK.out]; decide) (by rw [HK.out]; decide) (by unfold sizeV; rw [HK.out]; rfl), if_neg (by omega)])
        go_upto_region 36 with (go_at_call 47; refine (kind_any _ _).mono ?_; rintro e w' ⟨rfl, rfl⟩; rw [HK.out])
        go_wp2_with (at_builtin; refine wpList_append_inst (by rfl) _ _ (by rfl) w.heap.size M.length W.heap.size M (inP o 0 0 0) _ (by rfl) (MI.out.I.own.alloc _) (by rfl) (cells_at (i := inP o 0 0 0) (World.alloc_heap_new _ _)) (by omega) (by have := MI.out.I.bel.size; simp; omega) ?_; intro v5 w7 ho5 hg5)
        have HD := Lib.hid (MI.out.done (below_al (Below.refl _ _) _) ho5 hg5)
        obtain ⟨A5, c5, rfl, _, _, _⟩ := own_form ho5
        refine ⟨⟨q + 1, M ++ [inP o 0 0 0], P ++ [(q : Int)], rfl, by omega, by rw [List.length_append]; show M.length + 1 ≤ _; omega, HD.out.1, sn_next HSC.out hlt HOO.out (by rw [HK.out]; decide) HN.out (by omega) (by unfold tkC; rw [HK.out]; rfl) (by omega), HD.out.2⟩, ?_⟩
        show s.size - (M.length + 1) < s.size - M.length
        omega
      · have HK := Lib.hid hk
        clear hk
        obtain ⟨x, hx⟩ : ∃ x, sigV s ((q : Int) + 1) 1 = x := ⟨_, rfl⟩
        have HX := Lib.hid (show rdV s ((q : Int) + 1) 1 true = x from hx)
        have HND := Lib.hid (nd_plain (s := s) (p := (q : Int)) (z := 2) (by rw [HK.out]; decide) (by rw [HK.out]; decide) (by unfold sizeV; rw [HK.out]; rfl))
        have HCO := Lib.hid (show (inP o x 0 0).core = tkC s q o by unfold tkC; rw [HK.out, ← hx]; rfl)
        obtain ⟨sh, hsh⟩ : ∃ sh, (false || !rdB s ((q : Int) + 1) 1) = sh := ⟨_, rfl⟩
        have HSH := Lib.hid hsh
        clear hx hsh
        go_upto_region 36 with (first | (go_at_call 47; refine (kind_any _ _).mono ?_; rintro e w' ⟨rfl, rfl⟩; rw [HK.out]) | (go_at_call 92; refine (number_any w.heap.size s ((q : Int) + 1) 1 true false _ MI.out.rd (by omega) (by omega) (by omega) (by omega) (by omega)).mono ?_; rintro e w5 ⟨rfl, hrd5, hg5⟩; have MI5 := Lib.hid (MI.out.read hrd5 hg5); have hbx5 := MI5.out.box; unfold icells inP at hbx5; obtain ⟨b0, b1, b2, b3, b4, b5, b6, b7, b8, b9⟩ := ten_cells hbx5; have fz5 := frozenT hbx5 1; have hBW5 := lt_heap hbx5; have hRW5 := lt_heap hrd5; rw [HX.out]))
        rw [HSH.out] at MI5
        have MI6 := Lib.hid (MI5.out.put (i' := inP o x 0 0) 1 (.int .i64 x) rfl rfl rfl rfl rfl ⟨rfl, rfl, rfl, rfl⟩)
        clear MI MI5 hrd5 hg5 hbx5
        clear b0 b1 b2 b3 b4 b5 b6 b7 b8 b9 c0 c1 c2' f0 f1 f2 fz
        clear hBW hRW
        generalize w5.setCell ⟨B, 1, none⟩ (.int .i64 x) = W6 at MI6 ⊢
        have MI := MI6
        clear MI6
        have hbx := MI.out.box
        unfold icells inP at hbx
        obtain ⟨b0, b1, b2, b3, b4, b5, b6, b7, b8, b9⟩ := ten_cells hbx
        obtain ⟨c0, c1, c2', f0, f1, f2⟩ := three_cells MI.out.rd
        have hBW := lt_heap hbx
        have hRW := lt_heap MI.out.rd
        have fz := frozenT hbx
        clear hbx
        cases hsb : sh with
        | true =>
          rw [hsb] at c2' HSH
          have HX3 := Lib.hid (sn_cut HSC.out hlt HOO.out (by rw [HK.out]; decide) (by
            rw [HND.out, if_pos]
            · decide
            · have h := HSH.out
              have : ¬ (q : Int) + 1 + 1 ≤ s.size := fun e => by rw [(rdB_iff ok1 (by omega)).2 e] at h; cases h
              omega))
          clear hsb
          go_wp2
          all_goals (try rw [Exit.noGoto_ret])
          all_goals go_ret3
          exact sn_no HX3.out (by decide) MI.out.I.bel
        | false =>
          rw [hsb] at c2' HSH MI
          have hle := (rdB_iff (s := s) (p := (q : Int) + 1) (z := 1) ok1 (by omega)).1 (by have h := HSH.out; simpa using h)
          have HN := Lib.hid (show ndV s q o = 2 by rw [HND.out, if_neg (by omega)])
          clear hsb
          go_wp2_with (at_builtin; refine wpList_append_inst (by rfl) _ _ (by rfl) w.heap.size M.length W6.heap.size M (inP o x 0 0) _ (by rfl) (MI.out.I.own.alloc _) (by rfl) (cells_at (i := inP o x 0 0) (World.alloc_heap_new _ _)) (by omega) (by have := MI.out.I.bel.size; simp; omega) ?_; intro v5 w7 ho5 hg5)
          have HD := Lib.hid (MI.out.done (below_al (Below.refl _ _) _) ho5 hg5)
          obtain ⟨A5, c5, rfl, _, _, _⟩ := own_form ho5
          refine ⟨⟨q + 2, M ++ [inP o x 0 0], P ++ [(q : Int)], rfl, by omega, by rw [List.length_append]; show M.length + 1 ≤ _; omega, HD.out.1, sn_next HSC.out hlt HOO.out (by rw [HK.out]; decide) HN.out (by omega) HCO.out (by omega), by have := HD.out.2; rw [show (q : Int) + 1 + 1 = ((q + 2 : Nat) : Int) by omega] at this; exact this⟩, ?_⟩
          show s.size - (M.length + 1) < s.size - M.length
          omega
      · have HK := Lib.hid hk
        clear hk
        obtain ⟨x, hx⟩ : ∃ x, unsV s ((q : Int) + 1) 2 = x := ⟨_, rfl⟩
        have HX := Lib.hid (show rdV s ((q : Int) + 1) 2 false = x from hx)
        have HND := Lib.hid (nd_plain (s := s) (p := (q : Int)) (z := 3) (by rw [HK.out]; decide) (by rw [HK.out]; decide) (by unfold sizeV; rw [HK.out]; rfl))
        have HCO := Lib.hid (show (inP o x 0 0).core = tkC s q o by unfold tkC; rw [HK.out, ← hx]; rfl)
        obtain ⟨sh, hsh⟩ : ∃ sh, (false || !rdB s ((q : Int) + 1) 2) = sh := ⟨_, rfl⟩
        have HSH := Lib.hid hsh
        clear hx hsh
        go_upto_region 36 with (first | (go_at_call 47; refine (kind_any _ _).mono ?_; rintro e w' ⟨rfl, rfl⟩; rw [HK.out]) | (go_at_call 92; refine (number_any w.heap.size s ((q : Int) + 1) 2 false false _ MI.out.rd (by omega) (by omega) (by omega) (by omega) (by omega)).mono ?_; rintro e w5 ⟨rfl, hrd5, hg5⟩; have MI5 := Lib.hid (MI.out.read hrd5 hg5); have hbx5 := MI5.out.box; unfold icells inP at hbx5; obtain ⟨b0, b1, b2, b3, b4, b5, b6, b7, b8, b9⟩ := ten_cells hbx5; have fz5 := frozenT hbx5 1; have hBW5 := lt_heap hbx5; have hRW5 := lt_heap hrd5; rw [HX.out]))
        rw [HSH.out] at MI5
        have MI6 := Lib.hid (MI5.out.put (i' := inP o x 0 0) 1 (.int .i64 x) rfl rfl rfl rfl rfl ⟨rfl, rfl, rfl, rfl⟩)
        clear MI MI5 hrd5 hg5 hbx5
        clear b0 b1 b2 b3 b4 b5 b6 b7 b8 b9 c0 c1 c2' f0 f1 f2 fz
        clear hBW hRW
        generalize w5.setCell ⟨B, 1, none⟩ (.int .i64 x) = W6 at MI6 ⊢
        have MI := MI6
        clear MI6
        have hbx := MI.out.box
        unfold icells inP at hbx
        obtain ⟨b0, b1, b2, b3, b4, b5, b6, b7, b8, b9⟩ := ten_cells hbx
        obtain ⟨c0, c1, c2', f0, f1, f2⟩ := three_cells MI.out.rd
        have hBW := lt_heap hbx
        have hRW := lt_heap MI.out.rd
        have fz := frozenT hbx
        clear hbx
        cases hsb : sh with
        | true =>
          rw [hsb] at c2' HSH
          have HX3 := Lib.hid (sn_cut HSC.out hlt HOO.out (by rw [HK.out]; decide) (by
            rw [HND.out, if_pos]
            · decide
            · have h := HSH.out
              have : ¬ (q : Int) + 1 + 2 ≤ s.size := fun e => by rw [(rdB_iff ok2 (by omega)).2 e] at h; cases h
              omega))
          clear hsb
          go_wp2
          all_goals (try rw [Exit.noGoto_ret])
          all_goals go_ret3
          exact sn_no HX3.out (by decide) MI.out.I.bel
        | false =>
          rw [hsb] at c2' HSH MI
          have hle := (rdB_iff (s := s) (p := (q : Int) + 1) (z := 2) ok2 (by omega)).1 (by have h := HSH.out; simpa using h)
          have HN := Lib.hid (show ndV s q o = 3 by rw [HND.out, if_neg (by omega)])
          clear hsb
          go_wp2_with (at_builtin; refine wpList_append_inst (by rfl) _ _ (by rfl) w.heap.size M.length W6.heap.size M (inP o x 0 0) _ (by rfl) (MI.out.I.own.alloc _) (by rfl) (cells_at (i := inP o x 0 0) (World.alloc_heap_new _ _)) (by omega) (by have := MI.out.I.bel.size; simp; omega) ?_; intro v5 w7 ho5 hg5)
          have HD := Lib.hid (MI.out.done (below_al (Below.refl _ _) _) ho5 hg5)
          obtain ⟨A5, c5, rfl, _, _, _⟩ := own_form ho5
          refine ⟨⟨q + 3, M ++ [inP o x 0 0], P ++ [(q : Int)], rfl, by omega, by rw [List.length_append]; show M.length + 1 ≤ _; omega, HD.out.1, sn_next HSC.out hlt HOO.out (by rw [HK.out]; decide) HN.out (by omega) HCO.out (by omega), by have := HD.out.2; rw [show (q : Int) + 1 + 2 = ((q + 3 : Nat) : Int) by omega] at this; exact this⟩, ?_⟩
          show s.size - (M.length + 1) < s.size - M.length
          omega
      · have HK := Lib.hid hk
        clear hk
        obtain ⟨x, hx⟩ : ∃ x, unsV s ((q : Int) + 1) 2 = x := ⟨_, rfl⟩
        have HX := Lib.hid (show rdV s ((q : Int) + 1) 2 false = x from hx)
        have HND := Lib.hid (nd_plain (s := s) (p := (q : Int)) (z := 3) (by rw [HK.out]; decide) (by rw [HK.out]; decide) (by unfold sizeV; rw [HK.out]; rfl))
        have HCO := Lib.hid (show (inP o 0 0 x).core = tkC s q o by unfold tkC; rw [HK.out, ← hx]; rfl)
        obtain ⟨sh, hsh⟩ : ∃ sh, (false || !rdB s ((q : Int) + 1) 2) = sh := ⟨_, rfl⟩
        have HSH := Lib.hid hsh
        clear hx hsh
        go_upto_region 36 with (first | (go_at_call 47; refine (kind_any _ _).mono ?_; rintro e w' ⟨rfl, rfl⟩; rw [HK.out]) | (go_at_call 92; refine (number_any w.heap.size s ((q : Int) + 1) 2 false false _ MI.out.rd (by omega) (by omega) (by omega) (by omega) (by omega)).mono ?_; rintro e w5 ⟨rfl, hrd5, hg5⟩; have MI5 := Lib.hid (MI.out.read hrd5 hg5); have hbx5 := MI5.out.box; unfold icells inP at hbx5; obtain ⟨b0, b1, b2, b3, b4, b5, b6, b7, b8, b9⟩ := ten_cells hbx5; have fz5 := frozenT hbx5 3; have hBW5 := lt_heap hbx5; have hRW5 := lt_heap hrd5; rw [HX.out]))
        rw [HSH.out] at MI5
        have MI6 := Lib.hid (MI5.out.put (i' := inP o 0 0 x) 3 (.int .i64 x) rfl rfl rfl rfl rfl ⟨rfl, rfl, rfl, rfl⟩)
        clear MI MI5 hrd5 hg5 hbx5
        clear b0 b1 b2 b3 b4 b5 b6 b7 b8 b9 c0 c1 c2' f0 f1 f2 fz
        clear hBW hRW
        generalize w5.setCell ⟨B, 3, none⟩ (.int .i64 x) = W6 at MI6 ⊢
        have MI := MI6
        clear MI6
        have hbx := MI.out.box
        unfold icells inP at hbx
        obtain ⟨b0, b1, b2, b3, b4, b5, b6, b7, b8, b9⟩ := ten_cells hbx
        obtain ⟨c0, c1, c2', f0, f1, f2⟩ := three_cells MI.out.rd
        have hBW := lt_heap hbx
        have hRW := lt_heap MI.out.rd
        have fz := frozenT hbx
        clear hbx
        cases hsb : sh with
        | true =>
          rw [hsb] at c2' HSH
          have HX3 := Lib.hid (sn_cut HSC.out hlt HOO.out (by rw [HK.out]; decide) (by
            rw [HND.out, if_pos]
            · decide
            · have h := HSH.out
              have : ¬ (q : Int) + 1 + 2 ≤ s.size := fun e => by rw [(rdB_iff ok2 (by omega)).2 e] at h; cases h
              omega))
          clear hsb
          go_wp2
          all_goals (try rw [Exit.noGoto_ret])
          all_goals go_ret3
          exact sn_no HX3.out (by decide) MI.out.I.bel
        | false =>
          rw [hsb] at c2' HSH MI
          have hle := (rdB_iff (s := s) (p := (q : Int) + 1) (z := 2) ok2 (by omega)).1 (by have h := HSH.out; simpa using h)
          have HN := Lib.hid (show ndV s q o = 3 by rw [HND.out, if_neg (by omega)])
          clear hsb
          go_wp2_with (at_builtin; refine wpList_append_inst (by rfl) _ _ (by rfl) w.heap.size M.length W6.heap.size M (inP o 0 0 x) _ (by rfl) (MI.out.I.own.alloc _) (by rfl) (cells_at (i := inP o 0 0 x) (World.alloc_heap_new _ _)) (by omega) (by have := MI.out.I.bel.size; simp; omega) ?_; intro v5 w7 ho5 hg5)
          have HD := Lib.hid (MI.out.done (below_al (Below.refl _ _) _) ho5 hg5)
          obtain ⟨A5, c5, rfl, _, _, _⟩ := own_form ho5
          refine ⟨⟨q + 3, M ++ [inP o 0 0 x], P ++ [(q : Int)], rfl, by omega, by rw [List.length_append]; show M.length + 1 ≤ _; omega, HD.out.1, sn_next HSC.out hlt HOO.out (by rw [HK.out]; decide) HN.out (by omega) HCO.out (by omega), by have := HD.out.2; rw [show (q : Int) + 1 + 2 = ((q + 3 : Nat) : Int) by omega] at this; exact this⟩, ?_⟩
          show s.size - (M.length + 1) < s.size - M.length
          omega
      · have HK := Lib.hid hk
        clear hk
        obtain ⟨x, hx⟩ : ∃ x, unsV s ((q : Int) + 1) 1 = x := ⟨_, rfl⟩
        have HX := Lib.hid (show rdV s ((q : Int) + 1) 1 false = x from hx)
        have HND := Lib.hid (nd_plain (s := s) (p := (q : Int)) (z := 2) (by rw [HK.out]; decide) (by rw [HK.out]; decide) (by unfold sizeV; rw [HK.out]; rfl))
        have HCO := Lib.hid (show (inP o x 0 0).core = tkC s q o by unfold tkC; rw [HK.out, ← hx]; rfl)
        obtain ⟨sh, hsh⟩ : ∃ sh, (false || !rdB s ((q : Int) + 1) 1) = sh := ⟨_, rfl⟩
        have HSH := Lib.hid hsh
        clear hx hsh
        go_upto_region 24 with (first | (go_at_call 47; refine (kind_any _ _).mono ?_; rintro e w' ⟨rfl, rfl⟩; rw [HK.out]) | (go_at_call 92; refine (number_any w.heap.size s ((q : Int) + 1) 1 false false _ MI.out.rd (by omega) (by omega) (by omega) (by omega) (by omega)).mono ?_; rintro e w5 ⟨rfl, hrd5, hg5⟩; have MI5 := Lib.hid (MI.out.read hrd5 hg5); have hbx5 := MI5.out.box; unfold icells inP at hbx5; obtain ⟨b0, b1, b2, b3, b4, b5, b6, b7, b8, b9⟩ := ten_cells hbx5; have fz5 := frozenT hbx5 1; have hBW5 := lt_heap hbx5; have hRW5 := lt_heap hrd5; rw [HX.out]))
        rw [HSH.out] at MI5
        have MI6 := Lib.hid (MI5.out.put (i' := inP o x 0 0) 1 (.int .i64 x) rfl rfl rfl rfl rfl ⟨rfl, rfl, rfl, rfl⟩)
        clear MI MI5 hrd5 hg5 hbx5
        clear b0 b1 b2 b3 b4 b5 b6 b7 b8 b9 c0 c1 c2' f0 f1 f2 fz
        clear hBW hRW
        generalize w5.setCell ⟨B, 1, none⟩ (.int .i64 x) = W6 at MI6 ⊢
        have MI := MI6
        clear MI6
        have hbx := MI.out.box
        unfold icells inP at hbx
        obtain ⟨b0, b1, b2, b3, b4, b5, b6, b7, b8, b9⟩ := ten_cells hbx
        obtain ⟨c0, c1, c2', f0, f1, f2⟩ := three_cells MI.out.rd
        have hBW := lt_heap hbx
        have hRW := lt_heap MI.out.rd
        have fz := frozenT hbx
        clear hbx
        go_upto_region 36 with fail
        have MI6 := Lib.hid (MI.out.move (p' := (q : Int) + 1 + 1))
        clear MI
        clear b0 b1 b2 b3 b4 b5 b6 b7 b8 b9 c0 c1 c2' f0 f1 f2 fz
        clear hBW hRW
        have hwm : True := trivial
        generalize W6.setCell ⟨w.heap.size, 1, none⟩ _ = W7 at MI6 ⊢
        have MI := MI6
        clear MI6
        have hbx := MI.out.box
        unfold icells inP at hbx
        obtain ⟨b0, b1, b2, b3, b4, b5, b6, b7, b8, b9⟩ := ten_cells hbx
        obtain ⟨c0, c1, c2', f0, f1, f2⟩ := three_cells MI.out.rd
        have hBW := lt_heap hbx
        have hRW := lt_heap MI.out.rd
        have fz := frozenT hbx
        clear hbx
        cases hsb : sh with
        | true =>
          rw [hsb] at c2' HSH
          have HX3 := Lib.hid (sn_cut HSC.out hlt HOO.out (by rw [HK.out]; decide) (by
            rw [HND.out, if_pos]
            · decide
            · have h := HSH.out
              have : ¬ (q : Int) + 1 + 1 ≤ s.size := fun e => by rw [(rdB_iff ok1 (by omega)).2 e] at h; cases h
              omega))
          clear hsb
          go_wp2
          all_goals (try rw [Exit.noGoto_ret])
          all_goals go_ret3
          exact sn_no HX3.out (by decide) MI.out.I.bel
        | false =>
          rw [hsb] at c2' HSH MI
          have hle := (rdB_iff (s := s) (p := (q : Int) + 1) (z := 1) ok1 (by omega)).1 (by have h := HSH.out; simpa using h)
          have HN := Lib.hid (show ndV s q o = 2 by rw [HND.out, if_neg (by omega)])
          clear hsb
          go_wp2_with (at_builtin; refine wpList_append_inst (by rfl) _ _ (by rfl) w.heap.size M.length W7.heap.size M (inP o x 0 0) _ (by rfl) (MI.out.I.own.alloc _) (by rfl) (cells_at (i := inP o x 0 0) (World.alloc_heap_new _ _)) (by omega) (by have := MI.out.I.bel.size; simp; omega) ?_; intro v5 w7 ho5 hg5)
          have HD := Lib.hid (MI.out.done (below_al (Below.refl _ _) _) ho5 hg5)
          obtain ⟨A5, c5, rfl, _, _, _⟩ := own_form ho5
          refine ⟨⟨q + 2, M ++ [inP o x 0 0], P ++ [(q : Int)], rfl, by omega, by rw [List.length_append]; show M.length + 1 ≤ _; omega, HD.out.1, sn_next HSC.out hlt HOO.out (by rw [HK.out]; decide) HN.out (by omega) HCO.out (by omega), by have := HD.out.2; rw [show (q : Int) + 1 + 1 = ((q + 2 : Nat) : Int) by omega] at this; exact this⟩, ?_⟩
          show s.size - (M.length + 1) < s.size - M.length
          omega
      · have HK := Lib.hid hk
        clear hk
        obtain ⟨x, hx⟩ : ∃ x, unsV s ((q : Int) + 1) 2 = x := ⟨_, rfl⟩
        obtain ⟨y, hy⟩ : ∃ y, sgn 1 x = y := ⟨_, rfl⟩
        obtain ⟨a, ha⟩ : ∃ a, unsV s ((q : Int) + 1) 1 = a := ⟨_, rfl⟩
        have HXV := Lib.hid (show rdV s ((q : Int) + 1) 2 false = x from hx)
        have HAV := Lib.hid (show rdV s ((q : Int) + 1) 1 false = a from ha)
        have hxb := uns2_nn s ((q : Int) + 1)
        rw [hx] at hxb
        have hyb : y = (x + 128) % 256 - 128 := by rw [← hy]; rfl
        have hcv : IntKind.i8.wrap x = y := by simp [IntKind.wrap, IntKind.bits, IntKind.signed]; omega
        have hcw : IntKind.i64.wrap y = y := by simp [IntKind.wrap, IntKind.bits, IntKind.signed]; omega
        have hm1 : IntKind.i64.wrap ((q : Int) + 1) = q + 1 := by simp [IntKind.wrap, IntKind.bits, IntKind.signed]; omega
        have hm2 : IntKind.i64.wrap ((q : Int) + 3 - 2) = q + 1 := by simp [IntKind.wrap, IntKind.bits, IntKind.signed]; omega
        have hm3 : IntKind.i64.wrap ((q : Int) + 2 + 1) = q + 3 := by simp [IntKind.wrap, IntKind.bits, IntKind.signed]; omega
        have HYL := Lib.hid (fun h : (q : Int) + 1 + 2 ≤ s.size => by
          have := low_byte (s := s) (p := (q : Int) + 1) (by omega) h
          rw [hx, hy] at this
          exact this)
        have HND := Lib.hid (nd_plain (s := s) (p := (q : Int)) (z := 3) (by rw [HK.out]; decide) (by rw [HK.out]; decide) (by unfold sizeV; rw [HK.out]; rfl))
        have HCO := Lib.hid (fun h : (q : Int) + 1 + 2 ≤ s.size => show (inP o a y 0).core = tkC s q o by unfold tkC; rw [HK.out, ← ha, HYL.out h, show (q : Int) + 1 + 1 = q + 2 by omega]; rfl)
        obtain ⟨sh1, hsh1⟩ : ∃ sh1, (false || !rdB s ((q : Int) + 1) 2) = sh1 := ⟨_, rfl⟩
        obtain ⟨sh, hsh2⟩ : ∃ sh, (sh1 || !rdB s ((q : Int) + 1) 1) = sh := ⟨_, rfl⟩
        have HSF := Lib.hid (show sh = !decide ((q : Int) + 3 ≤ s.size) by
          rw [← hsh2, ← hsh1]
          by_cases h : (q : Int) + 3 ≤ s.size
          · rw [(rdB_iff ok2 (by omega)).2 (by omega), (rdB_iff ok1 (by omega)).2 (by omega), decide_eq_true h]; rfl
          · rw [rdB_no ok2 (by omega) (by omega), decide_eq_false h]; rfl)
        have HS1 := Lib.hid hsh1
        have HS2 := Lib.hid hsh2
        clear hx hy ha hsh1 hsh2 hyb hxb
        go_upto_region 22 with (first | (go_at_call 47; refine (kind_any _ _).mono ?_; rintro e w' ⟨rfl, rfl⟩; rw [HK.out]) | (go_at_call 92; (refine (number_any w.heap.size s ((q : Int) + 1) 2 false false _ MI.out.rd (by omega) (by omega) (by omega) (by omega) (by omega)).mono ?_); rintro e w5 ⟨rfl, hrd5, hg5⟩; have MI5 := Lib.hid (MI.out.read hrd5 (by first | exact hg5 | exact grown_drew hg5 | exact grown_dr hg5)); have hbx5 := MI5.out.box; unfold icells inP at hbx5; obtain ⟨b0, b1, b2, b3, b4, b5, b6, b7, b8, b9⟩ := ten_cells hbx5; have fz5 := frozenT hbx5 2; have hBW5 := lt_heap hbx5; have hRW5 := lt_heap hrd5; rw [HXV.out]))
        rw [HS1.out] at MI5
        have MI6 := Lib.hid ((MI5.out.put (i' := inP o 0 y 0) 2 (.int .i64 y) rfl rfl rfl rfl rfl ⟨rfl, rfl, rfl, rfl⟩).at (p' := (q : Int) + 3) (by omega))
        clear MI MI5 hrd5 hg5 hbx5 fz5 hBW5 hRW5
        clear b0 b1 b2 b3 b4 b5 b6 b7 b8 b9 c0 c1 c2' f0 f1 f2 fz
        clear hBW hRW
        generalize w5.setCell ⟨B, 2, none⟩ (.int .i64 y) = W6 at MI6 ⊢
        have MI := MI6
        clear MI6
        have hbx := MI.out.box
        unfold icells inP at hbx
        obtain ⟨b0, b1, b2, b3, b4, b5, b6, b7, b8, b9⟩ := ten_cells hbx
        obtain ⟨c0, c1, c2', f0, f1, f2⟩ := three_cells MI.out.rd
        have hBW := lt_heap hbx
        have hRW := lt_heap MI.out.rd
        have fz := frozenT hbx
        clear hbx
        go_upto_region 23 with fail
        have MI6 := Lib.hid (MI.out.move (p' := (q : Int) + 1))
        clear MI
        clear b0 b1 b2 b3 b4 b5 b6 b7 b8 b9 c0 c1 c2' f0 f1 f2 fz
        clear hBW hRW
        generalize W6.setCell ⟨w.heap.size, 1, none⟩ _ = W7 at MI6 ⊢
        have MI := MI6
        clear MI6
        have hbx := MI.out.box
        unfold icells inP at hbx
        obtain ⟨b0, b1, b2, b3, b4, b5, b6, b7, b8, b9⟩ := ten_cells hbx
        obtain ⟨c0, c1, c2', f0, f1, f2⟩ := three_cells MI.out.rd
        have hBW := lt_heap hbx
        have hRW := lt_heap MI.out.rd
        have fz := frozenT hbx
        clear hbx
        go_upto_region 24 with (first | (go_at_call 47; refine (kind_any _ _).mono ?_; rintro e w' ⟨rfl, rfl⟩; rw [HK.out]) | (go_at_call 92; (refine (number_any w.heap.size s ((q : Int) + 1) 1 false sh1 _ MI.out.rd (by omega) (by omega) (by omega) (by omega) (by omega)).mono ?_); rintro e w5 ⟨rfl, hrd5, hg5⟩; have MI5 := Lib.hid (MI.out.read hrd5 (by first | exact hg5 | exact grown_drew hg5 | exact grown_dr hg5)); have hbx5 := MI5.out.box; unfold icells inP at hbx5; obtain ⟨b0, b1, b2, b3, b4, b5, b6, b7, b8, b9⟩ := ten_cells hbx5; have fz5 := frozenT hbx5 1; have hBW5 := lt_heap hbx5; have hRW5 := lt_heap hrd5; rw [HAV.out]))
        rw [HS2.out] at MI5
        have MI6 := Lib.hid ((MI5.out.put (i' := inP o a y 0) 1 (.int .i64 a) rfl rfl rfl rfl rfl ⟨rfl, rfl, rfl, rfl⟩).at (p' := (q : Int) + 2) (by omega))
        clear MI MI5 hrd5 hg5 hbx5 fz5 hBW5 hRW5
        clear b0 b1 b2 b3 b4 b5 b6 b7 b8 b9 c0 c1 c2' f0 f1 f2 fz
        clear hBW hRW
        generalize w5.setCell ⟨B, 1, none⟩ (.int .i64 a) = W8 at MI6 ⊢
        have MI := MI6
        clear MI6
        have hbx := MI.out.box
        unfold icells inP at hbx
        obtain ⟨b0, b1, b2, b3, b4, b5, b6, b7, b8, b9⟩ := ten_cells hbx
        obtain ⟨c0, c1, c2', f0, f1, f2⟩ := three_cells MI.out.rd
        have hBW := lt_heap hbx
        have hRW := lt_heap MI.out.rd
        have fz := frozenT hbx
        clear hbx
        go_upto_region 36 with fail
        have MI6 := Lib.hid (MI.out.move (p' := (q : Int) + 3))
        clear MI
        clear b0 b1 b2 b3 b4 b5 b6 b7 b8 b9 c0 c1 c2' f0 f1 f2 fz
        clear hBW hRW
        generalize W8.setCell ⟨w.heap.size, 1, none⟩ _ = W9 at MI6 ⊢
        have MI := MI6
        clear MI6
        have hbx := MI.out.box
        unfold icells inP at hbx
        obtain ⟨b0, b1, b2, b3, b4, b5, b6, b7, b8, b9⟩ := ten_cells hbx
        obtain ⟨c0, c1, c2', f0, f1, f2⟩ := three_cells MI.out.rd
        have hBW := lt_heap hbx
        have hRW := lt_heap MI.out.rd
        have fz := frozenT hbx
        clear hbx
        cases hsb : sh with
        | true =>
          rw [hsb] at c2' HSF
          have HX3 := Lib.hid (sn_cut HSC.out hlt HOO.out (by rw [HK.out]; decide) (by
            have h := HSF.out
            rw [HND.out, if_pos]
            · decide
            · have : ¬ (q : Int) + 3 ≤ s.size := fun e => by rw [decide_eq_true e] at h; cases h
              omega))
          clear hsb
          go_wp2
          all_goals (try rw [Exit.noGoto_ret])
          all_goals go_ret3
          exact sn_no HX3.out (by decide) MI.out.I.bel
        | false =>
          rw [hsb] at c2' HSF MI
          have hle : (q : Int) + 3 ≤ s.size := by have h := HSF.out; simpa using h
          have HN := Lib.hid (show ndV s q o = 3 by rw [HND.out, if_neg (by omega)])
          clear hsb
          go_wp2_with (at_builtin; refine wpList_append_inst (by rfl) _ _ (by rfl) w.heap.size M.length W9.heap.size M (inP o a y 0) _ (by rfl) (MI.out.I.own.alloc _) (by rfl) (cells_at (i := inP o a y 0) (World.alloc_heap_new _ _)) (by omega) (by have := MI.out.I.bel.size; simp; omega) ?_; intro v5 w7 ho5 hg5)
          have HD := Lib.hid (MI.out.done (below_al (Below.refl _ _) _) ho5 hg5)
          obtain ⟨A5, c5, rfl, _, _, _⟩ := own_form ho5
          refine ⟨⟨q + 3, M ++ [inP o a y 0], P ++ [(q : Int)], rfl, by omega, by rw [List.length_append]; show M.length + 1 ≤ _; omega, HD.out.1, sn_next HSC.out hlt HOO.out (by rw [HK.out]; decide) HN.out (by omega) (HCO.out (by omega)) (by omega), by have := HD.out.2; rw [show (q : Int) + 3 = ((q + 3 : Nat) : Int) by omega] at this; exact this⟩, ?_⟩
          show s.size - (M.length + 1) < s.size - M.length
          omega
      · have HK := Lib.hid hk
        clear hk
        obtain ⟨t, ht⟩ : ∃ t, unsV s ((q : Int) + 1) 2 = t := ⟨_, rfl⟩
        obtain ⟨a, ha⟩ : ∃ a, sigV s ((q : Int) + 3) 4 = a := ⟨_, rfl⟩
        have hu := uns2_nn s ((q : Int) + 7)
        obtain ⟨n, hn⟩ : ∃ n : Nat, unsV s ((q : Int) + 7) 2 = (n : Int) := ⟨(unsV s ((q : Int) + 7) 2).toNat, by omega⟩
        rw [hn] at hu
        have HTV := Lib.hid (show rdV s ((q : Int) + 1) 2 false = t from ht)
        have HNV := Lib.hid (show rdV s ((q : Int) + 7) 2 false = (n : Int) from hn)
        have HAV := Lib.hid (show rdV s ((q : Int) + 3) 4 true = a from ha)
        have hnd := nd_6 (s := s) (p := (q : Int)) HK.out
        rw [hn] at hnd
        have HND := Lib.hid hnd
        clear hnd
        have hn0 : ¬ (q : Int) + 9 ≤ s.size → n = 0 := fun h => by have := uns_no (s := s) (p := (q : Int) + 7) ok2 (by omega) (by omega); omega
        have HCO := Lib.hid (fun (A3 : Option Addr) (c3 : Nat) (A4 : Option Addr) (c4 : Nat) => show (sw o a 0 t none 0 0 [] A4 (n) c4 (nuL (fun k => unsV s ((q : Int) + 9 + 2 * k) 2) (n))).core = tkC s q o by unfold tkC; rw [HK.out]; simp only [Int.reduceEq, if_false, if_true, ht, ha, hn, Int.toNat_natCast]; rfl)
        obtain ⟨sh1, hsh1⟩ : ∃ sh1, (false || !rdB s ((q : Int) + 1) 2) = sh1 := ⟨_, rfl⟩
        obtain ⟨sh2, hsh2⟩ : ∃ sh2, (sh1 || !rdB s ((q : Int) + 3) 4) = sh2 := ⟨_, rfl⟩
        obtain ⟨sh, hsh⟩ : ∃ sh, (sh2 || !rdB s ((q : Int) + 7) 2) = sh := ⟨_, rfl⟩
        have HSF := Lib.hid (show sh = !decide ((q : Int) + 9 ≤ s.size) by
          rw [← hsh, ← hsh2, ← hsh1]
          by_cases h : (q : Int) + 9 ≤ s.size
          · rw [(rdB_iff ok2 (by omega)).2 (show (q : Int) + 7 + 2 ≤ s.size by omega), (rdB_iff ok2 (by omega)).2 (show (q : Int) + 1 + 2 ≤ s.size by omega), (rdB_iff ok4 (by omega)).2 (show (q : Int) + 3 + 4 ≤ s.size by omega), decide_eq_true h]; rfl
          · rw [rdB_no ok2 (by omega) (show ¬ (q : Int) + 7 + 2 ≤ s.size by omega), decide_eq_false h]; simp)
        have HHD := Lib.hid (show Hdr s q 9 n sh from ⟨fun h => hn0 (fun e => by have := HSF.out; rw [h, decide_eq_true e] at this; cases this), fun h => by have h2 := HSF.out; rw [h] at h2; simpa using h2⟩)
        clear hn0
        have HS1 := Lib.hid hsh1
        have HS2 := Lib.hid hsh2
        have HS3 := Lib.hid hsh
        clear ht ha hn hsh1 hsh2 hsh
        go_upto_region 26 with (first | (go_at_call 47; refine (kind_any _ _).mono ?_; rintro e w' ⟨rfl, rfl⟩; rw [HK.out]) | (go_at_call 92; (refine (number_any w.heap.size s ((q : Int) + 1) 2 false false _ MI.out.rd (by omega) (by omega) (by omega) (by omega) (by omega)).mono ?_); rintro e w5 ⟨rfl, hrd5, hg5⟩; have MI5 := Lib.hid (MI.out.read hrd5 (by first | exact hg5 | exact grown_drew hg5 | exact grown_dr hg5)); have hbx5 := MI5.out.box; unfold icells inP at hbx5; obtain ⟨b0, b1, b2, b3, b4, b5, b6, b7, b8, b9⟩ := ten_cells hbx5; have fz5 := frozenT hbx5 3; have hBW5 := lt_heap hbx5; have hRW5 := lt_heap hrd5; rw [HTV.out]))
        rw [HS1.out] at MI5
        have MI6 := Lib.hid ((MI5.out.put (i' := inP o 0 0 t) 3 (.int .i64 t) rfl rfl rfl rfl rfl ⟨rfl, rfl, rfl, rfl⟩).at (p' := (q : Int) + 3) (by omega))
        clear MI MI5 hrd5 hg5 hbx5 fz5 hBW5 hRW5
        clear b0 b1 b2 b3 b4 b5 b6 b7 b8 b9 c0 c1 c2' f0 f1 f2 fz
        clear hBW hRW
        generalize w5.setCell ⟨B, 3, none⟩ (.int .i64 t) = W6 at MI6 ⊢
        have MI := MI6
        clear MI6
        have hbx := MI.out.box
        unfold icells inP at hbx
        obtain ⟨b0, b1, b2, b3, b4, b5, b6, b7, b8, b9⟩ := ten_cells hbx
        obtain ⟨c0, c1, c2', f0, f1, f2⟩ := three_cells MI.out.rd
        have hBW := lt_heap hbx
        have hRW := lt_heap MI.out.rd
        have fz := frozenT hbx
        clear hbx
        go_upto_region 28 with (first | (go_at_call 47; refine (kind_any _ _).mono ?_; rintro e w' ⟨rfl, rfl⟩; rw [HK.out]) | (go_at_call 92; (refine (number_any w.heap.size s ((q : Int) + 3) 4 true sh1 _ MI.out.rd (by omega) (by omega) (by omega) (by omega) (by omega)).mono ?_); rintro e w5 ⟨rfl, hrd5, hg5⟩; have MI5 := Lib.hid (MI.out.read hrd5 (by first | exact hg5 | exact grown_drew hg5 | exact grown_dr hg5)); have hbx5 := MI5.out.box; unfold icells inP at hbx5; obtain ⟨b0, b1, b2, b3, b4, b5, b6, b7, b8, b9⟩ := ten_cells hbx5; have fz5 := frozenT hbx5 1; have hBW5 := lt_heap hbx5; have hRW5 := lt_heap hrd5; rw [HAV.out]))
        rw [HS2.out] at MI5
        have MI6 := Lib.hid ((MI5.out.put (i' := inP o a 0 t) 1 (.int .i64 a) rfl rfl rfl rfl rfl ⟨rfl, rfl, rfl, rfl⟩).at (p' := (q : Int) + 7) (by omega))
        clear MI MI5 hrd5 hg5 hbx5 fz5 hBW5 hRW5
        clear b0 b1 b2 b3 b4 b5 b6 b7 b8 b9 c0 c1 c2' f0 f1 f2 fz
        clear hBW hRW
        generalize w5.setCell ⟨B, 1, none⟩ (.int .i64 a) = W7 at MI6 ⊢
        have MI := MI6
        clear MI6
        have hbx := MI.out.box
        unfold icells inP at hbx
        obtain ⟨b0, b1, b2, b3, b4, b5, b6, b7, b8, b9⟩ := ten_cells hbx
        obtain ⟨c0, c1, c2', f0, f1, f2⟩ := three_cells MI.out.rd
        have hBW := lt_heap hbx
        have hRW := lt_heap MI.out.rd
        have fz := frozenT hbx
        clear hbx
        go_wp2_with (go_at_call 92; (refine (number_any w.heap.size s ((q : Int) + 7) 2 false sh2 _ MI.out.rd (by omega) (by omega) (by omega) (by omega) (by omega)).mono ?_); rintro e w5 ⟨rfl, hrd5, hg5⟩; have MI5 := Lib.hid (MI.out.read hrd5 (by first | exact hg5 | exact grown_drew hg5 | exact grown_dr hg5)); have hbx5 := MI5.out.box; unfold icells inP at hbx5; obtain ⟨b0, b1, b2, b3, b4, b5, b6, b7, b8, b9⟩ := ten_cells hbx5; have fz5 := frozenT hbx5 0; have hBW5 := lt_heap hbx5; have hRW5 := lt_heap hrd5; rw [HNV.out])
        rw [HS3.out] at MI5
        have MI6 := Lib.hid (MI5.out.at (p' := (q : Int) + 9 + 2 * ((0 : Nat) : Int)) (by omega))
        clear MI MI5 hrd5 hg5 hbx5 fz5 hBW5 hRW5
        clear b0 b1 b2 b3 b4 b5 b6 b7 b8 b9 c0 c1 c2' f0 f1 f2 fz
        clear hBW hRW
        go_loopw [71] (fun x wr => ∃ (j : Nat) (A3 : Option Addr) (c3 : Nat) (A4 : Option Addr) (c4 : Nat), j ≤ n ∧ x = .int .i64 j ∧ Mid w wr s ((q : Int) + 9 + 2 * (j : Int)) sh B (sw o a 0 t none 0 0 [] A4 (j) c4 (nuL (fun k => unsV s ((q : Int) + 9 + 2 * k) 2) (j))) M (.slice A M.length c) (P ++ [(q : Int)]) (.slice A6 (P.length + 1) c6) ∧ (sh = true → n = 0) ∧ (sh = false → (q : Int) + 9 + 2 * (j : Int) ≤ s.size)) (fun x _ => n - (intOf x).toNat)
        case atStart => exact ⟨0, none, 0, none, 0, Nat.zero_le _, rfl, MI6.out, HHD.out.z, fun h => by have := HHD.out.le h; omega⟩
        case round =>
          clear MI6
          obtain ⟨j, A3, c3, A4, c4, hj, rfl, m, hs1, hs2⟩ := hrel
          have MI := Lib.hid m
          clear m
          have hbx := MI.out.box
          unfold icells sw at hbx
          obtain ⟨b0, b1, b2, b3, b4, b5, b6, b7, b8, b9⟩ := ten_cells hbx
          obtain ⟨c0, c1, c2', f0, f1, f2⟩ := three_cells MI.out.rd
          have hBW := lt_heap hbx
          have hRW := lt_heap MI.out.rd
          have fz := frozenT hbx
          clear hbx
          by_cases hjn : j < n
          · obtain rfl : sh = false := by
              cases hsb : sh with
              | false => rfl
              | true => have := hs1 hsb; omega
            have hle := hs2 rfl
            clear hs1 hs2
            obtain ⟨y, hy⟩ : ∃ y, unsV s ((q : Int) + 9 + 2 * (j : Int)) 2 = y := ⟨_, rfl⟩
            have HYV := Lib.hid (show rdV s ((q : Int) + 9 + 2 * (j : Int)) 2 false = y from hy)
            obtain ⟨sy, hsy⟩ : ∃ sy, (false || !rdB s ((q : Int) + 9 + 2 * (j : Int)) 2) = sy := ⟨_, rfl⟩
            have HY1 := Lib.hid hsy
            have HSY := Lib.hid (show sy = !decide ((q : Int) + 9 + 2 * (j : Int) + 2 ≤ s.size) by
              rw [← hsy]
              by_cases h : (q : Int) + 9 + 2 * (j : Int) + 2 ≤ s.size
              · rw [(rdB_iff ok2 (by omega)).2 (show (q : Int) + 9 + 2 * (j : Int) + 2 ≤ s.size by omega), decide_eq_true h]; rfl
              · rw [rdB_no ok2 (by omega) (show ¬ (q : Int) + 9 + 2 * (j : Int) + 2 ≤ s.size by omega), decide_eq_false h]; simp)
            have HYX := Lib.hid (And.intro hy True.intro)
            clear hsy hy
            go_wp2
            go_region_law (first | (go_simp; (go_at_call 92; (first | (refine (number_any w.heap.size s ((q : Int) + 9 + 2 * (j : Int)) 2 false false wr MI.out.rd (by omega) (by omega) (by omega) (by omega) (by omega)).mono ?_) | (refine (number_any w.heap.size s ((q : Int) + 9 + 2 * (j : Int)) 2 false false wr.drew MI.out.rd (by omega) (by omega) (by omega) (by omega) (by omega)).mono ?_) | (refine (number_any w.heap.size s ((q : Int) + 9 + 2 * (j : Int)) 2 false false (wr.drewN 1) MI.out.rd (by omega) (by omega) (by omega) (by omega) (by omega)).mono ?_) | (refine (number_any w.heap.size s ((q : Int) + 9 + 2 * (j : Int)) 2 false false (wr.drewN 2) MI.out.rd (by omega) (by omega) (by omega) (by omega) (by omega)).mono ?_)); rintro e w5 ⟨rfl, hrd5, hg5⟩; rw [HY1.out] at hrd5; have MI5 := Lib.hid (MI.out.read hrd5 (by first | exact hg5 | exact grown_drew hg5 | exact grown_dr hg5)); have hbx5 := MI5.out.box; unfold icells sw at hbx5; obtain ⟨b0, b1, b2, b3, b4, b5, b6, b7, b8, b9⟩ := ten_cells hbx5; have fz5 := frozenT hbx5 5; have hBW5 := lt_heap hbx5; have hRW5 := lt_heap hrd5; rw [HYV.out])) | (refine step_append_lies_ints (by rfl) _ _ (by rfl) w.heap.size j 1 (nuL (fun k => unsV s ((q : Int) + 9 + 2 * k) 2) j) y _ _ (by rfl) (MI5.out.hi.to.alloc _) (by rfl) (Row.one (ten_cell0 (new_at (by simp; done))) (by simp; done)) (by omega) (by have := MI5.out.I.bel.size; simp; omega) ?_; intro A7 c7 w4 ho hg hl; have hb4 := box_keep hg (laid_old MI5.out.box) (MI5.out.hi.to.alloc _) neNI; unfold icells sw at hb4; obtain ⟨k0, k1, k2, k3, k4, k5, k6, k7, k8, k9⟩ := ten_cells hb4; have g5 := frozenT hb4 5; have hz4 := lt_heap hb4))
            all_goals
              have m2 : Mid w (w4.setCell ⟨B, 5, none⟩ (.slice A7 (j + 1) c7)) s ((q : Int) + 9 + 2 * ((j + 1 : Nat) : Int)) sy B (sw o a 0 t none 0 0 [] A7 (j + 1) c7 (nuL (fun k => unsV s ((q : Int) + 9 + 2 * k) 2) (j + 1))) M (.slice A M.length c) (P ++ [(q : Int)]) (.slice A6 (P.length + 1) c6) := by
                have e := Mid.aim (MI5.out.up (below_al (Below.refl _ _) _)) ho hg hl
                rw [nuL_succ, HYX.out.1]
                exact e.at (by omega)
              have MI6 := Lib.hid m2
              clear m2 ho hg hl hb4 k0 k1 k2 k3 k4 k5 k6 k7 k8 k9 g5 hz4 MI MI5 hrd5 hg5 hbx5 fz5 hBW5 hRW5
              clear b0 b1 b2 b3 b4 b5 b6 b7 b8 b9 c0 c1 c2' f0 f1 f2 fz
              clear hBW hRW
              generalize w4.setCell ⟨B, 5, none⟩ (.slice A7 (j + 1) c7) = W9 at MI6 ⊢
              have MI := MI6
              clear MI6
              have hbx := MI.out.box
              unfold icells sw at hbx
              obtain ⟨b0, b1, b2, b3, b4, b5, b6, b7, b8, b9⟩ := ten_cells hbx
              obtain ⟨c0, c1, c2', f0, f1, f2⟩ := three_cells MI.out.rd
              have hBW := lt_heap hbx
              have hRW := lt_heap MI.out.rd
              have fz := frozenT hbx
              clear hbx
              cases hsb : sy with
              | true =>
                rw [hsb] at c2' HSY
                have HX3 := Lib.hid (sn_cut HSC.out hlt HOO.out (by rw [HK.out]; decide) (by
                  have h := HSY.out
                  rw [HND.out, if_neg (by omega), if_pos]
                  · decide
                  · have : ¬ (q : Int) + 9 + 2 * (j : Int) + 2 ≤ s.size := fun e => by rw [decide_eq_true e] at h; cases h
                    omega))
                clear hsb
                go_wp2
                all_goals (try rw [Exit.noGoto_ret])
                all_goals go_ret3
                exact sn_no HX3.out (by decide) MI.out.I.bel
              | false =>
                rw [hsb] at c2' HSY MI
                have hle2 : (q : Int) + 9 + 2 * (j : Int) + 2 ≤ s.size := by have h := HSY.out; simpa using h
                clear hsb
                go_wp2
                exact ⟨⟨j + 1, A3, c3, A7, c7, hjn, by go_num, MI.out, fun h => by (cases h), fun _ => by omega⟩, by simp [intOf]; omega⟩
          · obtain ⟨rfl⟩ : n = j := by omega
            cases hsb : sh with
            | true =>
              rw [hsb] at c2' HSF
              have HX3 := Lib.hid (sn_cut HSC.out hlt HOO.out (by rw [HK.out]; decide) (by
                have h := HSF.out
                rw [HND.out, if_pos]
                · decide
                · have : ¬ (q : Int) + 9 ≤ s.size := fun e => by rw [decide_eq_true e] at h; cases h
                  omega))
              clear hsb hs1 hs2
              go_wp2
              all_goals (try rw [Exit.noGoto_ret])
              all_goals go_ret3
              exact sn_no HX3.out (by decide) MI.out.I.bel
            | false =>
              have hle := hs2 hsb
              rw [hsb] at c2' MI
              have HN := Lib.hid (show ndV s q o = 9 + 2 * (n : Int) by rw [HND.out, if_neg (by omega), if_neg (by omega)])
              clear hsb hs1 hs2
              go_wp2_with (at_builtin; refine wpList_append_inst (by rfl) _ _ (by rfl) w.heap.size M.length wr.heap.size M (sw o a 0 t none 0 0 [] A4 (n) c4 (nuL (fun k => unsV s ((q : Int) + 9 + 2 * k) 2) (n))) _ (by rfl) (MI.out.I.own.alloc _) (by rfl) (cells_at (i := sw o a 0 t none 0 0 [] A4 (n) c4 (nuL (fun k => unsV s ((q : Int) + 9 + 2 * k) 2) (n))) (World.alloc_heap_new _ _)) (by omega) (by have := MI.out.I.bel.size; simp; omega) ?_; intro v5 w7 ho5 hg5)
              have HD := Lib.hid (MI.out.done (below_al (Below.refl _ _) _) ho5 hg5)
              obtain ⟨A5, c5, rfl, _, _, _⟩ := own_form ho5
              refine ⟨⟨q + (9 + 2 * n), M ++ [sw o a 0 t none 0 0 [] A4 (n) c4 (nuL (fun k => unsV s ((q : Int) + 9 + 2 * k) 2) (n))], P ++ [(q : Int)], rfl, by omega, by rw [List.length_append]; show M.length + 1 ≤ _; omega, HD.out.1, sn_next HSC.out hlt HOO.out (by rw [HK.out]; decide) HN.out (by omega) (HCO.out A3 c3 A4 c4) (by omega), by have := HD.out.2; rw [show (q : Int) + 9 + 2 * (n : Int) = ((q + (9 + 2 * n) : Nat) : Int) by omega] at this; exact this⟩, ?_⟩
              show s.size - (M.length + 1) < s.size - M.length
              omega
      · have HK := Lib.hid hk
        clear hk
        obtain ⟨t, ht⟩ : ∃ t, unsV s ((q : Int) + 1) 2 = t := ⟨_, rfl⟩
        have hu := uns2_nn s ((q : Int) + 3)
        obtain ⟨n, hn⟩ : ∃ n : Nat, unsV s ((q : Int) + 3) 2 = (n : Int) := ⟨(unsV s ((q : Int) + 3) 2).toNat, by omega⟩
        rw [hn] at hu
        have HTV := Lib.hid (show rdV s ((q : Int) + 1) 2 false = t from ht)
        have HNV := Lib.hid (show rdV s ((q : Int) + 3) 2 false = (n : Int) from hn)
        have hnd := nd_7 (s := s) (p := (q : Int)) HK.out
        rw [hn] at hnd
        have HND := Lib.hid hnd
        clear hnd
        have hn0 : ¬ (q : Int) + 5 ≤ s.size → n = 0 := fun h => by have := uns_no (s := s) (p := (q : Int) + 3) ok2 (by omega) (by omega); omega
        have HCO := Lib.hid (fun (A3 : Option Addr) (c3 : Nat) (A4 : Option Addr) (c4 : Nat) => show (sw o 0 0 t A3 (n) c3 (nuL (fun k => sigV s ((q : Int) + 5 + 6 * k) 4) (n)) A4 (n) c4 (nuL (fun k => unsV s ((q : Int) + 9 + 6 * k) 2) (n))).core = tkC s q o by unfold tkC; rw [HK.out]; simp only [Int.reduceEq, if_false, if_true, ht, hn, Int.toNat_natCast]; rfl)
        obtain ⟨sh1, hsh1⟩ : ∃ sh1, (false || !rdB s ((q : Int) + 1) 2) = sh1 := ⟨_, rfl⟩
        obtain ⟨sh, hsh⟩ : ∃ sh, (sh1 || !rdB s ((q : Int) + 3) 2) = sh := ⟨_, rfl⟩
        have HSF := Lib.hid (show sh = !decide ((q : Int) + 5 ≤ s.size) by
          rw [← hsh, ← hsh1]
          by_cases h : (q : Int) + 5 ≤ s.size
          · rw [(rdB_iff ok2 (by omega)).2 (show (q : Int) + 3 + 2 ≤ s.size by omega), (rdB_iff ok2 (by omega)).2 (show (q : Int) + 1 + 2 ≤ s.size by omega), decide_eq_true h]; rfl
          · rw [rdB_no ok2 (by omega) (show ¬ (q : Int) + 3 + 2 ≤ s.size by omega), decide_eq_false h]; simp)
        have HHD := Lib.hid (show Hdr s q 5 n sh from ⟨fun h => hn0 (fun e => by have := HSF.out; rw [h, decide_eq_true e] at this; cases this), fun h => by have h2 := HSF.out; rw [h] at h2; simpa using h2⟩)
        clear hn0
        have HS1 := Lib.hid hsh1
        have HS3 := Lib.hid hsh
        clear ht hn hsh1 hsh
        go_upto_region 26 with (first | (go_at_call 47; refine (kind_any _ _).mono ?_; rintro e w' ⟨rfl, rfl⟩; rw [HK.out]) | (go_at_call 92; (refine (number_any w.heap.size s ((q : Int) + 1) 2 false false _ MI.out.rd (by omega) (by omega) (by omega) (by omega) (by omega)).mono ?_); rintro e w5 ⟨rfl, hrd5, hg5⟩; have MI5 := Lib.hid (MI.out.read hrd5 (by first | exact hg5 | exact grown_drew hg5 | exact grown_dr hg5)); have hbx5 := MI5.out.box; unfold icells inP at hbx5; obtain ⟨b0, b1, b2, b3, b4, b5, b6, b7, b8, b9⟩ := ten_cells hbx5; have fz5 := frozenT hbx5 3; have hBW5 := lt_heap hbx5; have hRW5 := lt_heap hrd5; rw [HTV.out]))
        rw [HS1.out] at MI5
        have MI6 := Lib.hid ((MI5.out.put (i' := inP o 0 0 t) 3 (.int .i64 t) rfl rfl rfl rfl rfl ⟨rfl, rfl, rfl, rfl⟩).at (p' := (q : Int) + 3) (by omega))
        clear MI MI5 hrd5 hg5 hbx5 fz5 hBW5 hRW5
        clear b0 b1 b2 b3 b4 b5 b6 b7 b8 b9 c0 c1 c2' f0 f1 f2 fz
        clear hBW hRW
        generalize w5.setCell ⟨B, 3, none⟩ (.int .i64 t) = W6 at MI6 ⊢
        have MI := MI6
        clear MI6
        have hbx := MI.out.box
        unfold icells inP at hbx
        obtain ⟨b0, b1, b2, b3, b4, b5, b6, b7, b8, b9⟩ := ten_cells hbx
        obtain ⟨c0, c1, c2', f0, f1, f2⟩ := three_cells MI.out.rd
        have hBW := lt_heap hbx
        have hRW := lt_heap MI.out.rd
        have fz := frozenT hbx
        clear hbx
        go_wp2_with (go_at_call 92; (refine (number_any w.heap.size s ((q : Int) + 3) 2 false sh1 _ MI.out.rd (by omega) (by omega) (by omega) (by omega) (by omega)).mono ?_); rintro e w5 ⟨rfl, hrd5, hg5⟩; have MI5 := Lib.hid (MI.out.read hrd5 (by first | exact hg5 | exact grown_drew hg5 | exact grown_dr hg5)); have hbx5 := MI5.out.box; unfold icells inP at hbx5; obtain ⟨b0, b1, b2, b3, b4, b5, b6, b7, b8, b9⟩ := ten_cells hbx5; have fz5 := frozenT hbx5 0; have hBW5 := lt_heap hbx5; have hRW5 := lt_heap hrd5; rw [HNV.out])
        rw [HS3.out] at MI5
        have MI6 := Lib.hid (MI5.out.at (p' := (q : Int) + 5 + 6 * ((0 : Nat) : Int)) (by omega))
        clear MI MI5 hrd5 hg5 hbx5 fz5 hBW5 hRW5
        clear b0 b1 b2 b3 b4 b5 b6 b7 b8 b9 c0 c1 c2' f0 f1 f2 fz
        clear hBW hRW
        go_loopw [71] (fun x wr => ∃ (j : Nat) (A3 : Option Addr) (c3 : Nat) (A4 : Option Addr) (c4 : Nat), j ≤ n ∧ x = .int .i64 j ∧ Mid w wr s ((q : Int) + 5 + 6 * (j : Int)) sh B (sw o 0 0 t A3 (j) c3 (nuL (fun k => sigV s ((q : Int) + 5 + 6 * k) 4) (j)) A4 (j) c4 (nuL (fun k => unsV s ((q : Int) + 9 + 6 * k) 2) (j))) M (.slice A M.length c) (P ++ [(q : Int)]) (.slice A6 (P.length + 1) c6) ∧ (sh = true → n = 0) ∧ (sh = false → (q : Int) + 5 + 6 * (j : Int) ≤ s.size)) (fun x _ => n - (intOf x).toNat)
        case atStart => exact ⟨0, none, 0, none, 0, Nat.zero_le _, rfl, MI6.out, HHD.out.z, fun h => by have := HHD.out.le h; omega⟩
        case round =>
          clear MI6
          obtain ⟨j, A3, c3, A4, c4, hj, rfl, m, hs1, hs2⟩ := hrel
          have MI := Lib.hid m
          clear m
          have hbx := MI.out.box
          unfold icells sw at hbx
          obtain ⟨b0, b1, b2, b3, b4, b5, b6, b7, b8, b9⟩ := ten_cells hbx
          obtain ⟨c0, c1, c2', f0, f1, f2⟩ := three_cells MI.out.rd
          have hBW := lt_heap hbx
          have hRW := lt_heap MI.out.rd
          have fz := frozenT hbx
          clear hbx
          by_cases hjn : j < n
          · obtain rfl : sh = false := by
              cases hsb : sh with
              | false => rfl
              | true => have := hs1 hsb; omega
            have hle := hs2 rfl
            clear hs1 hs2
            obtain ⟨y, hy⟩ : ∃ y, unsV s ((q : Int) + 9 + 6 * (j : Int)) 2 = y := ⟨_, rfl⟩
            have HYV := Lib.hid (show rdV s ((q : Int) + 9 + 6 * (j : Int)) 2 false = y from hy)
            obtain ⟨x, hx⟩ : ∃ x, sigV s ((q : Int) + 5 + 6 * (j : Int)) 4 = x := ⟨_, rfl⟩
            have HXV := Lib.hid (show rdV s ((q : Int) + 5 + 6 * (j : Int)) 4 true = x from hx)
            obtain ⟨sx, hsx⟩ : ∃ sx, (false || !rdB s ((q : Int) + 5 + 6 * (j : Int)) 4) = sx := ⟨_, rfl⟩
            have HX1 := Lib.hid hsx
            obtain ⟨sy, hsy⟩ : ∃ sy, (sx || !rdB s ((q : Int) + 9 + 6 * (j : Int)) 2) = sy := ⟨_, rfl⟩
            have HY1 := Lib.hid hsy
            have HSY := Lib.hid (show sy = !decide ((q : Int) + 9 + 6 * (j : Int) + 2 ≤ s.size) by
              rw [← hsy, ← hsx]
              by_cases h : (q : Int) + 9 + 6 * (j : Int) + 2 ≤ s.size
              · rw [(rdB_iff ok2 (by omega)).2 (show (q : Int) + 9 + 6 * (j : Int) + 2 ≤ s.size by omega), (rdB_iff ok4 (by omega)).2 (show (q : Int) + 5 + 6 * (j : Int) + 4 ≤ s.size by omega), decide_eq_true h]; rfl
              · rw [rdB_no ok2 (by omega) (show ¬ (q : Int) + 9 + 6 * (j : Int) + 2 ≤ s.size by omega), decide_eq_false h]; simp)
            have HYX := Lib.hid (And.intro hy hx)
            clear hsy hy hsx hx
            go_wp2
            go_region_law (first | (go_simp; (go_at_call 92; (first | (refine (number_any w.heap.size s ((q : Int) + 5 + 6 * (j : Int)) 4 true false wr MI.out.rd (by omega) (by omega) (by omega) (by omega) (by omega)).mono ?_) | (refine (number_any w.heap.size s ((q : Int) + 5 + 6 * (j : Int)) 4 true false wr.drew MI.out.rd (by omega) (by omega) (by omega) (by omega) (by omega)).mono ?_) | (refine (number_any w.heap.size s ((q : Int) + 5 + 6 * (j : Int)) 4 true false (wr.drewN 1) MI.out.rd (by omega) (by omega) (by omega) (by omega) (by omega)).mono ?_) | (refine (number_any w.heap.size s ((q : Int) + 5 + 6 * (j : Int)) 4 true false (wr.drewN 2) MI.out.rd (by omega) (by omega) (by omega) (by omega) (by omega)).mono ?_)); rintro e w5 ⟨rfl, hrd5, hg5⟩; rw [HX1.out] at hrd5; have MI5 := Lib.hid (MI.out.read hrd5 (by first | exact hg5 | exact grown_drew hg5 | exact grown_dr hg5)); have hbx5 := MI5.out.box; unfold icells sw at hbx5; obtain ⟨b0, b1, b2, b3, b4, b5, b6, b7, b8, b9⟩ := ten_cells hbx5; have fz5 := frozenT hbx5 4; have hBW5 := lt_heap hbx5; have hRW5 := lt_heap hrd5; rw [HXV.out])) | (refine step_append_lies_ints (by rfl) _ _ (by rfl) w.heap.size j 1 (nuL (fun k => sigV s ((q : Int) + 5 + 6 * k) 4) j) x _ _ (by rfl) (MI5.out.hi.ko.alloc _) (by rfl) (Row.one (ten_cell0 (new_at (by simp; done))) (by simp; done)) (by omega) (by have := MI5.out.I.bel.size; simp; omega) ?_; intro A7 c7 w4 ho hg hl; have hb4 := box_keep hg (laid_old MI5.out.box) (MI5.out.hi.ko.alloc _) neNI; unfold icells sw at hb4; obtain ⟨k0, k1, k2, k3, k4, k5, k6, k7, k8, k9⟩ := ten_cells hb4; have g5 := frozenT hb4 4; have hz4 := lt_heap hb4))
            all_goals
              have m2 : Mid w (w4.setCell ⟨B, 4, none⟩ (.slice A7 (j + 1) c7)) s ((q : Int) + 9 + 6 * (j : Int)) sx B (sw o 0 0 t A7 (j + 1) c7 (nuL (fun k => sigV s ((q : Int) + 5 + 6 * k) 4) (j + 1)) A4 (j) c4 (nuL (fun k => unsV s ((q : Int) + 9 + 6 * k) 2) (j))) M (.slice A M.length c) (P ++ [(q : Int)]) (.slice A6 (P.length + 1) c6) := by
                have e := Mid.key (MI5.out.up (below_al (Below.refl _ _) _)) ho hg hl
                rw [nuL_succ, HYX.out.2]
                exact e.at (by omega)
              have MI6 := Lib.hid m2
              clear m2 ho hg hl hb4 k0 k1 k2 k3 k4 k5 k6 k7 k8 k9 g5 hz4 MI MI5 hrd5 hg5 hbx5 fz5 hBW5 hRW5
              clear b0 b1 b2 b3 b4 b5 b6 b7 b8 b9 c0 c1 c2' f0 f1 f2 fz
              clear hBW hRW
              generalize w4.setCell ⟨B, 4, none⟩ (.slice A7 (j + 1) c7) = W8 at MI6 ⊢
              have MI := MI6
              clear MI6
              have hbx := MI.out.box
              unfold icells sw at hbx
              obtain ⟨b0, b1, b2, b3, b4, b5, b6, b7, b8, b9⟩ := ten_cells hbx
              obtain ⟨c0, c1, c2', f0, f1, f2⟩ := three_cells MI.out.rd
              have hBW := lt_heap hbx
              have hRW := lt_heap MI.out.rd
              have fz := frozenT hbx
              clear hbx
              go_wp2
              go_region_law (first | (go_simp; (go_at_call 92; (first | (refine (number_any w.heap.size s ((q : Int) + 9 + 6 * (j : Int)) 2 false sx W8 MI.out.rd (by omega) (by omega) (by omega) (by omega) (by omega)).mono ?_) | (refine (number_any w.heap.size s ((q : Int) + 9 + 6 * (j : Int)) 2 false sx W8.drew MI.out.rd (by omega) (by omega) (by omega) (by omega) (by omega)).mono ?_) | (refine (number_any w.heap.size s ((q : Int) + 9 + 6 * (j : Int)) 2 false sx (W8.drewN 1) MI.out.rd (by omega) (by omega) (by omega) (by omega) (by omega)).mono ?_) | (refine (number_any w.heap.size s ((q : Int) + 9 + 6 * (j : Int)) 2 false sx (W8.drewN 2) MI.out.rd (by omega) (by omega) (by omega) (by omega) (by omega)).mono ?_)); rintro e w5 ⟨rfl, hrd5, hg5⟩; rw [HY1.out] at hrd5; have MI5 := Lib.hid (MI.out.read hrd5 (by first | exact hg5 | exact grown_drew hg5 | exact grown_dr hg5)); have hbx5 := MI5.out.box; unfold icells sw at hbx5; obtain ⟨b0, b1, b2, b3, b4, b5, b6, b7, b8, b9⟩ := ten_cells hbx5; have fz5 := frozenT hbx5 5; have hBW5 := lt_heap hbx5; have hRW5 := lt_heap hrd5; rw [HYV.out])) | (refine step_append_lies_ints (by rfl) _ _ (by rfl) w.heap.size j 1 (nuL (fun k => unsV s ((q : Int) + 9 + 6 * k) 2) j) y _ _ (by rfl) (MI5.out.hi.to.alloc _) (by rfl) (Row.one (ten_cell0 (new_at (by simp; done))) (by simp; done)) (by omega) (by have := MI5.out.I.bel.size; simp; omega) ?_; intro A8 c8 w4 ho hg hl; have hb4 := box_keep hg (laid_old MI5.out.box) (MI5.out.hi.to.alloc _) neNI; unfold icells sw at hb4; obtain ⟨k0, k1, k2, k3, k4, k5, k6, k7, k8, k9⟩ := ten_cells hb4; have g5 := frozenT hb4 5; have hz4 := lt_heap hb4))
              all_goals
                have m2 : Mid w (w4.setCell ⟨B, 5, none⟩ (.slice A8 (j + 1) c8)) s ((q : Int) + 5 + 6 * ((j + 1 : Nat) : Int)) sy B (sw o 0 0 t A7 (j + 1) c7 (nuL (fun k => sigV s ((q : Int) + 5 + 6 * k) 4) (j + 1)) A8 (j + 1) c8 (nuL (fun k => unsV s ((q : Int) + 9 + 6 * k) 2) (j + 1))) M (.slice A M.length c) (P ++ [(q : Int)]) (.slice A6 (P.length + 1) c6) := by
                  have e := Mid.aim (MI5.out.up (below_al (Below.refl _ _) _)) ho hg hl
                  rw [nuL_succ (fun k => unsV s ((q : Int) + 9 + 6 * k) 2) j, HYX.out.1]
                  exact e.at (by omega)
                have MI6 := Lib.hid m2
                clear m2 ho hg hl hb4 k0 k1 k2 k3 k4 k5 k6 k7 k8 k9 g5 hz4 MI MI5 hrd5 hg5 hbx5 fz5 hBW5 hRW5
                clear b0 b1 b2 b3 b4 b5 b6 b7 b8 b9 c0 c1 c2' f0 f1 f2 fz
                clear hBW hRW
                generalize w4.setCell ⟨B, 5, none⟩ (.slice A8 (j + 1) c8) = W9 at MI6 ⊢
                have MI := MI6
                clear MI6
                have hbx := MI.out.box
                unfold icells sw at hbx
                obtain ⟨b0, b1, b2, b3, b4, b5, b6, b7, b8, b9⟩ := ten_cells hbx
                obtain ⟨c0, c1, c2', f0, f1, f2⟩ := three_cells MI.out.rd
                have hBW := lt_heap hbx
                have hRW := lt_heap MI.out.rd
                have fz := frozenT hbx
                clear hbx
                cases hsb : sy with
                | true =>
                  rw [hsb] at c2' HSY
                  have HX3 := Lib.hid (sn_cut HSC.out hlt HOO.out (by rw [HK.out]; decide) (by
                    have h := HSY.out
                    rw [HND.out, if_neg (by omega), if_pos]
                    · decide
                    · have : ¬ (q : Int) + 9 + 6 * (j : Int) + 2 ≤ s.size := fun e => by rw [decide_eq_true e] at h; cases h
                      omega))
                  clear hsb
                  go_wp2
                  all_goals (try rw [Exit.noGoto_ret])
                  all_goals go_ret3
                  exact sn_no HX3.out (by decide) MI.out.I.bel
                | false =>
                  rw [hsb] at c2' HSY MI
                  have hle2 : (q : Int) + 9 + 6 * (j : Int) + 2 ≤ s.size := by have h := HSY.out; simpa using h
                  clear hsb
                  go_wp2
                  exact ⟨⟨j + 1, A7, c7, A8, c8, hjn, by go_num, MI.out, fun h => by (cases h), fun _ => by omega⟩, by simp [intOf]; omega⟩
          · obtain ⟨rfl⟩ : n = j := by omega
            cases hsb : sh with
            | true =>
              rw [hsb] at c2' HSF
              have HX3 := Lib.hid (sn_cut HSC.out hlt HOO.out (by rw [HK.out]; decide) (by
                have h := HSF.out
                rw [HND.out, if_pos]
                · decide
                · have : ¬ (q : Int) + 5 ≤ s.size := fun e => by rw [decide_eq_true e] at h; cases h
                  omega))
              clear hsb hs1 hs2
              go_wp2
              all_goals (try rw [Exit.noGoto_ret])
              all_goals go_ret3
              exact sn_no HX3.out (by decide) MI.out.I.bel
            | false =>
              have hle := hs2 hsb
              rw [hsb] at c2' MI
              have HN := Lib.hid (show ndV s q o = 5 + 6 * (n : Int) by rw [HND.out, if_neg (by omega), if_neg (by omega)])
              clear hsb hs1 hs2
              go_wp2_with (at_builtin; refine wpList_append_inst (by rfl) _ _ (by rfl) w.heap.size M.length wr.heap.size M (sw o 0 0 t A3 (n) c3 (nuL (fun k => sigV s ((q : Int) + 5 + 6 * k) 4) (n)) A4 (n) c4 (nuL (fun k => unsV s ((q : Int) + 9 + 6 * k) 2) (n))) _ (by rfl) (MI.out.I.own.alloc _) (by rfl) (cells_at (i := sw o 0 0 t A3 (n) c3 (nuL (fun k => sigV s ((q : Int) + 5 + 6 * k) 4) (n)) A4 (n) c4 (nuL (fun k => unsV s ((q : Int) + 9 + 6 * k) 2) (n))) (World.alloc_heap_new _ _)) (by omega) (by have := MI.out.I.bel.size; simp; omega) ?_; intro v5 w7 ho5 hg5)
              have HD := Lib.hid (MI.out.done (below_al (Below.refl _ _) _) ho5 hg5)
              obtain ⟨A5, c5, rfl, _, _, _⟩ := own_form ho5
              refine ⟨⟨q + (5 + 6 * n), M ++ [sw o 0 0 t A3 (n) c3 (nuL (fun k => sigV s ((q : Int) + 5 + 6 * k) 4) (n)) A4 (n) c4 (nuL (fun k => unsV s ((q : Int) + 9 + 6 * k) 2) (n))], P ++ [(q : Int)], rfl, by omega, by rw [List.length_append]; show M.length + 1 ≤ _; omega, HD.out.1, sn_next HSC.out hlt HOO.out (by rw [HK.out]; decide) HN.out (by omega) (HCO.out A3 c3 A4 c4) (by omega), by have := HD.out.2; rw [show (q : Int) + 5 + 6 * (n : Int) = ((q + (5 + 6 * n) : Nat) : Int) by omega] at this; exact this⟩, ?_⟩
              show s.size - (M.length + 1) < s.size - M.length
              omega
    · obtain ⟨rfl⟩ : q = s.size := by omega
      go_wp2
      all_goals (try rw [Exit.noGoto_ret])
      all_goals go_ret3
      exact sn_ok HSC.out HI.out

end Go.Proofs.Ytpghkdmljanncaa
