/- Layer 8: scan, on the texts of the chapter's examples. -/
import Derived.Test.YtpghkdmljanncaaInOwn
import Derived.Test.YtpghkdmljanncaaOpcNum
import Derived.WalkMore
import Derived.Test.YtpghkdmljanncaaInPut
namespace Go.Proofs.Ytpghkdmljanncaa
open Go.ChangeShapes Go.WideShapes Go.ChangeAt Go.RowKit Go.PlainAid
set_option linter.unusedSimpArgs false
set_option linter.unusedVariables false

/-- an instruction without lists -/
def inP (op a b t : Int) : In := ⟨op, a, b, t, none, 0, 0, [], none, 0, 0, [], ⟨#[]⟩, ⟨#[]⟩, ⟨#[]⟩, ⟨#[]⟩⟩
theorem inP_ok (op a b t : Int) (w : World) (B : Nat) : (inP op a b t).ok w B := ⟨rfl, Nat.le_refl _, by show 0 ≤ 9223372036854775807; omega, Or.inl rfl, rfl, Nat.le_refl _, by show 0 ≤ 9223372036854775807; omega, Or.inl rfl⟩
def ScRet (w : World) (op t p e : Int) (ok : Bool) (en : Ending) (w' : World) : Prop :=
  if ok = true then ∃ A c A2 c2, en = .returned (.tuple #[.slice A 1 c, .slice A2 1 c2, .int .i64 0]) ∧ w'.ownsRow w.heap.size 26 10 (.slice A 1 c) 1 (irow [inP op 0 0 t]) ∧ Row w' w'.heap.size A2 [p] ∧ Below w.heap.size w w'
  else ∃ A n c A2 n2 c2, en = .returned (.tuple #[.slice A n c, .slice A2 n2 c2, .int .i64 e]) ∧ Below w.heap.size w w'
theorem sc_ok {w w' : World} {op t p e : Int} {A A2 : Option Addr} {c c2 : Nat} (h1 : w'.ownsRow w.heap.size 26 10 (.slice A 1 c) 1 (irow [inP op 0 0 t])) (h2 : w'.ownsRow w.heap.size 3 1 (.slice A2 1 c2) 1 (Ri [p])) (h3 : Below w.heap.size w w') :
    ScRet w op t p e true (.returned (.tuple #[.slice A 1 c, .slice A2 1 c2, .int .i64 0])) w' := by
  unfold ScRet
  rw [if_pos rfl]
  exact ⟨A, c, A2, c2, rfl, h1, (Row.of_own h2).1, h3⟩
theorem sc_no {w w' : World} {op t p e : Int} {A A2 : Option Addr} {n n2 c c2 : Nat} (h3 : Below w.heap.size w w') : ScRet w op t p e false (.returned (.tuple #[.slice A n c, .slice A2 n2 c2, .int .i64 e])) w' := by
  unfold ScRet
  rw [if_neg (by simp)]
  exact ⟨A, n, c, A2, n2, c2, rfl, h3⟩
theorem frozen_ten {W : World} {B : Nat} {cs : Array Value} {t : TypeId} (h : W.heap[B]? = some (.cells cs t)) (j : Nat) : W.frozen? ⟨B, j, none⟩ = false := by simp [World.frozen?, h]
def lenV : Value → Nat
  | .slice _ n _ => n
  | _ => 0
theorem cells_at {w : World} {B : Nat} {i : In} {t : TypeId} (h : w.heap[B]? = some (.cells (icells i).toArray t)) : ∀ j u, (icells i)[j]? = some u → w.cell? ⟨B, j, none⟩ = some u := by
  intro j u hu
  simp [World.cell?, h, hu]
theorem rd_grown {w w' : World} {g : Nat} {s : ByteArray} {p : Int} {sh : Bool} {r : Option Nat} (h : Rd w g s p sh) (hg : w.grownBy w' r) (hr : r ≠ some g) : Rd w' g s p sh := (hg.block g (lt_heap h) (fun e => hr e.symm)).trans h
theorem rd_alloc {w : World} {g : Nat} {s : ByteArray} {p : Int} {sh : Bool} (h : Rd w g s p sh) (o : Obj) : Rd (w.alloc o) g s p sh := laid_old h
theorem own_rd {w : World} {B e n g : Nat} {v : Value} {xs : List Value} {s : ByteArray} {p : Int} {sh : Bool} (h : w.ownsRow B e 1 v n xs) (hr : Rd w g s p sh) (he : 98 ≠ e) : v.ownBlock ≠ some g := own_not h hr he
structure ScI (w wr : World) (s : ByteArray) (op t z : Int) (v v2 : Value) : Prop where
  own : wr.ownsRow w.heap.size 26 10 v 1 (irow [inP op 0 0 t])
  pl : wr.ownsRow w.heap.size 3 1 v2 1 (Ri [0])
  rd : Rd wr w.heap.size s z false
  bel : Below w.heap.size w wr


set_option maxRecDepth 100000 in
set_option maxHeartbeats 2000000 in
theorem scanA (s : ByteArray) (op : Int) (hs : s.size = 1) (hop : rdV s 0 1 false = op) (h1 : rdB s 0 1 = true) (hk : kindV op = 0) (w : World) :
    Calls Try.prog 64 #[.string s] w (ScRet w op 0 0 0 true) := by
  have HK := Lib.hid hk
  have HOP := Lib.hid hop
  have H1 := Lib.hid h1
  clear hk hop h1
  skip
  skip
  go_enter Try.func64, Try.ntmps64
  go_wp2
  go_step3
  go_upto_region 4 with fail
  have hB := below_al (Below.refl w.heap.size w) (.cells #[.string s, .int .i64 0, .bool false] 98)
  have hR := World.alloc_heap_new w (.cells #[.string s, .int .i64 0, .bool false] 98)
  generalize w.alloc (.cells #[.string s, .int .i64 0, .bool false] 98) = W1 at hB hR ⊢
  have RD := Lib.hid (show Rd W1 w.heap.size s 0 false from hR)
  have HB := Lib.hid hB
  clear hR hB
  go_wp2
  go_step3
  go_wp2
  go_loopw [5, 6, 8] (fun l pl e wr => e = .int .i64 0 ∧ ((l = .slice none 0 0 ∧ pl = .slice none 0 0 ∧ wr = W1) ∨ ScI w wr s op 0 1 l pl)) (fun l _ _ _ => 5 - lenV l)
  case atStart => exact ⟨rfl, Or.inl ⟨rfl, rfl, rfl⟩⟩
  case round =>
    obtain ⟨rfl, ⟨rfl, rfl, rfl⟩ | I⟩ := hrel
    · have c1 := (three_cells RD.out).2.1
      have hsz := lt_heap RD.out
      have HO := Lib.hid (World.ownsRow_nil wr w.heap.size 3 1)
      go_upto_region 7 with (at_builtin; refine wpList_append_ints (by rfl) _ _ (by rfl) w.heap.size 0 1 1 (wr.heap.size + 1) [] [0] _ _ (by rfl) (HO.out.alloc _) (by rfl) (Row.one (ten_cell0 (new_at rfl)) (by omega)) rfl (fun h => by cases h) (by omega) (by simp; omega) ?_; intro v2 w2 ho hgr)
      have RD2 := Lib.hid (rd_grown (rd_alloc RD.out _) hgr (by simp [Value.ownBlock]))
      have hz2 := hgr.size
      simp only [World.size_alloc] at hz2
      have HO2 := Lib.hid ho
      have HB2 := Lib.hid ((below_al HB.out _).trans (grown_below hgr (fun k hk => by simp [Value.ownBlock] at hk) (below_al HB.out _).size))
      clear ho hgr HO c1
      go_upto_region 8 with (go_at_call 92; refine (number_any w.heap.size s 0 1 false false _ RD2.out (by omega) (by omega) (by omega) (by omega) (by omega)).mono ?_; rintro e w3 ⟨rfl, hrd3, hg3⟩; rw [HOP.out])
      rw [H1.out] at hrd3
      have HO3 := Lib.hid (HO2.out.kept hg3 (Or.inr (fun e => own_rd HO2.out RD2.out (by decide) e)))
      have HB3 := Lib.hid (HB2.out.trans (grown_below hg3 (fun k hk => by injection hk with hk; omega) HB2.out.size))
      have hz3 := hg3.size
      have hBX := World.alloc_heap_new w3 (.cells #[.int .i64 op, .int .i64 0, .int .i64 0, .int .i64 0, .slice none 0 0, .slice none 0 0, .string ⟨#[]⟩, .string ⟨#[]⟩, .string ⟨#[]⟩, .string ⟨#[]⟩] 26)
      have HO4 := Lib.hid (HO3.out.alloc (.cells #[.int .i64 op, .int .i64 0, .int .i64 0, .int .i64 0, .slice none 0 0, .slice none 0 0, .string ⟨#[]⟩, .string ⟨#[]⟩, .string ⟨#[]⟩, .string ⟨#[]⟩] 26))
      have HB4 := Lib.hid (below_al HB3.out (.cells #[.int .i64 op, .int .i64 0, .int .i64 0, .int .i64 0, .slice none 0 0, .slice none 0 0, .string ⟨#[]⟩, .string ⟨#[]⟩, .string ⟨#[]⟩, .string ⟨#[]⟩] 26))
      have RD4 := Lib.hid (rd_alloc hrd3 (.cells #[.int .i64 op, .int .i64 0, .int .i64 0, .int .i64 0, .slice none 0 0, .slice none 0 0, .string ⟨#[]⟩, .string ⟨#[]⟩, .string ⟨#[]⟩, .string ⟨#[]⟩] 26))
      clear hrd3 hg3 HO2 HB2 RD2 HO3 HB3
      generalize hW4 : w3.alloc (.cells #[.int .i64 op, .int .i64 0, .int .i64 0, .int .i64 0, .slice none 0 0, .slice none 0 0, .string ⟨#[]⟩, .string ⟨#[]⟩, .string ⟨#[]⟩, .string ⟨#[]⟩] 26) = W4 at hBX HO4 HB4 RD4 ⊢
      clear hW4
      obtain ⟨b0, b1, b2, b3, b4, b5, b6, b7, b8, b9⟩ := ten_cells hBX
      obtain ⟨c0, c1, c2, f0, f1, f2⟩ := three_cells RD4.out
      have HBX := Lib.hid hBX
      clear hBX
      have HL := Lib.hid ((World.ownsRow_nil W4 w.heap.size 26 10).alloc (.cells #[.int .i64 op, .int .i64 0, .int .i64 0, .int .i64 0, .slice none 0 0, .slice none 0 0, .string ⟨#[]⟩, .string ⟨#[]⟩, .string ⟨#[]⟩, .string ⟨#[]⟩] 26))
      go_wp2_with (first | (go_at_call 47; refine (kind_any _ _).mono ?_; rintro e w' ⟨rfl, rfl⟩; rw [HK.out]) | (at_builtin; refine wpList_append_inst (by rfl) _ _ (by rfl) w.heap.size 0 W4.heap.size [] (inP op 0 0 0) _ (by rfl) HL.out (by rfl) (cells_at (i := inP op 0 0 0) (World.alloc_heap_new _ _)) (by omega) (by have := HB4.out.size; simp; omega) ?_; intro v5 w5 ho5 hg5))
      refine ⟨⟨rfl, Or.inr ⟨ho5, (HO4.out.alloc _).kept hg5 (Classical.em _), rd_grown (rd_alloc RD4.out _) hg5 (by simp [Value.ownBlock]), (below_al HB4.out _).trans (grown_below hg5 (fun k hk => by simp [Value.ownBlock] at hk) (below_al HB4.out _).size)⟩⟩, ?_⟩
      obtain ⟨A5, c5, rfl, _, _, _⟩ := own_form ho5
      show 5 - 1 < 5 - 0
      decide
    · obtain ⟨c0, c1, c2', f0, f1, f2⟩ := three_cells I.rd
      have hsz := I.bel.size
      obtain ⟨A, c, rfl, _, _, _⟩ := own_form I.own
      obtain ⟨A2, c2, rfl, _, _, _⟩ := own_form I.pl
      have hI := Lib.hid I
      clear I
      go_wp2
      all_goals (try rw [Exit.noGoto_ret])
      all_goals go_ret3
      exact sc_ok hI.out.own hI.out.pl hI.out.bel

set_option maxRecDepth 100000 in
set_option maxHeartbeats 2000000 in
theorem scanB (s : ByteArray) (op : Int) (hs : s.size = 1) (hop : rdV s 0 1 false = op) (h1 : rdB s 0 1 = true) (hk : kindV op = 1) (h2 : rdB s 1 1 = false) (w : World) :
    Calls Try.prog 64 #[.string s] w (ScRet w op 0 0 3 false) := by
  have HK := Lib.hid hk
  have HOP := Lib.hid hop
  have H1 := Lib.hid h1
  clear hk hop h1
  have H2 := Lib.hid h2; clear h2
  skip
  go_enter Try.func64, Try.ntmps64
  go_wp2
  go_step3
  go_upto_region 4 with fail
  have hB := below_al (Below.refl w.heap.size w) (.cells #[.string s, .int .i64 0, .bool false] 98)
  have hR := World.alloc_heap_new w (.cells #[.string s, .int .i64 0, .bool false] 98)
  generalize w.alloc (.cells #[.string s, .int .i64 0, .bool false] 98) = W1 at hB hR ⊢
  have RD := Lib.hid (show Rd W1 w.heap.size s 0 false from hR)
  have HB := Lib.hid hB
  clear hR hB
  go_wp2
  go_step3
  go_wp2
  go_loopw [5, 6, 8] (fun l pl e wr => e = .int .i64 0 ∧ ((l = .slice none 0 0 ∧ pl = .slice none 0 0 ∧ wr = W1) ∨ False)) (fun l _ _ _ => 5 - lenV l)
  case atStart => exact ⟨rfl, Or.inl ⟨rfl, rfl, rfl⟩⟩
  case round =>
    obtain ⟨rfl, ⟨rfl, rfl, rfl⟩ | I⟩ := hrel
    · have c1 := (three_cells RD.out).2.1
      have hsz := lt_heap RD.out
      have HO := Lib.hid (World.ownsRow_nil wr w.heap.size 3 1)
      go_upto_region 7 with (at_builtin; refine wpList_append_ints (by rfl) _ _ (by rfl) w.heap.size 0 1 1 (wr.heap.size + 1) [] [0] _ _ (by rfl) (HO.out.alloc _) (by rfl) (Row.one (ten_cell0 (new_at rfl)) (by omega)) rfl (fun h => by cases h) (by omega) (by simp; omega) ?_; intro v2 w2 ho hgr)
      have RD2 := Lib.hid (rd_grown (rd_alloc RD.out _) hgr (by simp [Value.ownBlock]))
      have hz2 := hgr.size
      simp only [World.size_alloc] at hz2
      have HO2 := Lib.hid ho
      have HB2 := Lib.hid ((below_al HB.out _).trans (grown_below hgr (fun k hk => by simp [Value.ownBlock] at hk) (below_al HB.out _).size))
      clear ho hgr HO c1
      go_upto_region 8 with (go_at_call 92; refine (number_any w.heap.size s 0 1 false false _ RD2.out (by omega) (by omega) (by omega) (by omega) (by omega)).mono ?_; rintro e w3 ⟨rfl, hrd3, hg3⟩; rw [HOP.out])
      rw [H1.out] at hrd3
      have HO3 := Lib.hid (HO2.out.kept hg3 (Or.inr (fun e => own_rd HO2.out RD2.out (by decide) e)))
      have HB3 := Lib.hid (HB2.out.trans (grown_below hg3 (fun k hk => by injection hk with hk; omega) HB2.out.size))
      have hz3 := hg3.size
      have hBX := World.alloc_heap_new w3 (.cells #[.int .i64 op, .int .i64 0, .int .i64 0, .int .i64 0, .slice none 0 0, .slice none 0 0, .string ⟨#[]⟩, .string ⟨#[]⟩, .string ⟨#[]⟩, .string ⟨#[]⟩] 26)
      have HO4 := Lib.hid (HO3.out.alloc (.cells #[.int .i64 op, .int .i64 0, .int .i64 0, .int .i64 0, .slice none 0 0, .slice none 0 0, .string ⟨#[]⟩, .string ⟨#[]⟩, .string ⟨#[]⟩, .string ⟨#[]⟩] 26))
      have HB4 := Lib.hid (below_al HB3.out (.cells #[.int .i64 op, .int .i64 0, .int .i64 0, .int .i64 0, .slice none 0 0, .slice none 0 0, .string ⟨#[]⟩, .string ⟨#[]⟩, .string ⟨#[]⟩, .string ⟨#[]⟩] 26))
      have RD4 := Lib.hid (rd_alloc hrd3 (.cells #[.int .i64 op, .int .i64 0, .int .i64 0, .int .i64 0, .slice none 0 0, .slice none 0 0, .string ⟨#[]⟩, .string ⟨#[]⟩, .string ⟨#[]⟩, .string ⟨#[]⟩] 26))
      clear hrd3 hg3 HO2 HB2 RD2 HO3 HB3
      generalize hW4 : w3.alloc (.cells #[.int .i64 op, .int .i64 0, .int .i64 0, .int .i64 0, .slice none 0 0, .slice none 0 0, .string ⟨#[]⟩, .string ⟨#[]⟩, .string ⟨#[]⟩, .string ⟨#[]⟩] 26) = W4 at hBX HO4 HB4 RD4 ⊢
      clear hW4
      obtain ⟨b0, b1, b2, b3, b4, b5, b6, b7, b8, b9⟩ := ten_cells hBX
      obtain ⟨c0, c1, c2, f0, f1, f2⟩ := three_cells RD4.out
      have HBX := Lib.hid hBX
      clear hBX
      obtain ⟨A2, c2', rfl, _, _, _⟩ := own_form HO4.out
      have bz := lt_heap HBX.out
      have rz := lt_heap RD4.out
      have hne : w3.heap.size ≠ w.heap.size := by omega
      go_upto_region 19 with (go_at_call 47; refine (kind_any _ _).mono ?_; rintro e w' ⟨rfl, rfl⟩; rw [HK.out])
      go_upto_region 36 with (go_at_call 92; refine (number_any w.heap.size s 1 1 true false _ RD4.out (by omega) (by omega) (by omega) (by omega) (by omega)).mono ?_; rintro e w5 ⟨rfl, hrd5, hg5⟩; have hb5 := (hg5.block w3.heap.size bz (fun e => hne (Option.some.inj e))).trans HBX.out; obtain ⟨b0, b1, b2, b3, b4, b5, b6, b7, b8, b9⟩ := ten_cells hb5; have fz := frozen_ten hb5 1)
      rw [H2.out] at hrd5
      have HB5 := Lib.hid (HB4.out.trans (grown_below hg5 (fun k hk => by injection hk with hk; omega) HB4.out.size))
      have hz5 := hg5.size
      obtain ⟨c0, c1, c2, f0, f1, f2⟩ := three_cells hrd5
      go_wp2
      all_goals (try rw [Exit.noGoto_ret])
      all_goals go_ret3
      exact sc_no (A := none) (n := 0) (c := 0) (A2 := A2) (n2 := 1) (c2 := c2') (below_st (p := ⟨w3.heap.size, 1, none⟩) HB5.out (by show w.heap.size ≤ w3.heap.size; omega) _)
    · exact I.elim

set_option maxRecDepth 100000 in
set_option maxHeartbeats 2000000 in
theorem scanC (s : ByteArray) (op : Int) (hs : s.size = 1) (hop : rdV s 0 1 false = op) (h1 : rdB s 0 1 = true) (hk : kindV op = -1) (w : World) :
    Calls Try.prog 64 #[.string s] w (ScRet w op 0 0 15 false) := by
  have HK := Lib.hid hk
  have HOP := Lib.hid hop
  have H1 := Lib.hid h1
  clear hk hop h1
  skip
  skip
  go_enter Try.func64, Try.ntmps64
  go_wp2
  go_step3
  go_upto_region 4 with fail
  have hB := below_al (Below.refl w.heap.size w) (.cells #[.string s, .int .i64 0, .bool false] 98)
  have hR := World.alloc_heap_new w (.cells #[.string s, .int .i64 0, .bool false] 98)
  generalize w.alloc (.cells #[.string s, .int .i64 0, .bool false] 98) = W1 at hB hR ⊢
  have RD := Lib.hid (show Rd W1 w.heap.size s 0 false from hR)
  have HB := Lib.hid hB
  clear hR hB
  go_wp2
  go_step3
  go_wp2
  go_loopw [5, 6, 8] (fun l pl e wr => e = .int .i64 0 ∧ ((l = .slice none 0 0 ∧ pl = .slice none 0 0 ∧ wr = W1) ∨ False)) (fun l _ _ _ => 5 - lenV l)
  case atStart => exact ⟨rfl, Or.inl ⟨rfl, rfl, rfl⟩⟩
  case round =>
    obtain ⟨rfl, ⟨rfl, rfl, rfl⟩ | I⟩ := hrel
    · have c1 := (three_cells RD.out).2.1
      have hsz := lt_heap RD.out
      have HO := Lib.hid (World.ownsRow_nil wr w.heap.size 3 1)
      go_upto_region 7 with (at_builtin; refine wpList_append_ints (by rfl) _ _ (by rfl) w.heap.size 0 1 1 (wr.heap.size + 1) [] [0] _ _ (by rfl) (HO.out.alloc _) (by rfl) (Row.one (ten_cell0 (new_at rfl)) (by omega)) rfl (fun h => by cases h) (by omega) (by simp; omega) ?_; intro v2 w2 ho hgr)
      have RD2 := Lib.hid (rd_grown (rd_alloc RD.out _) hgr (by simp [Value.ownBlock]))
      have hz2 := hgr.size
      simp only [World.size_alloc] at hz2
      have HO2 := Lib.hid ho
      have HB2 := Lib.hid ((below_al HB.out _).trans (grown_below hgr (fun k hk => by simp [Value.ownBlock] at hk) (below_al HB.out _).size))
      clear ho hgr HO c1
      go_upto_region 8 with (go_at_call 92; refine (number_any w.heap.size s 0 1 false false _ RD2.out (by omega) (by omega) (by omega) (by omega) (by omega)).mono ?_; rintro e w3 ⟨rfl, hrd3, hg3⟩; rw [HOP.out])
      rw [H1.out] at hrd3
      have HO3 := Lib.hid (HO2.out.kept hg3 (Or.inr (fun e => own_rd HO2.out RD2.out (by decide) e)))
      have HB3 := Lib.hid (HB2.out.trans (grown_below hg3 (fun k hk => by injection hk with hk; omega) HB2.out.size))
      have hz3 := hg3.size
      have hBX := World.alloc_heap_new w3 (.cells #[.int .i64 op, .int .i64 0, .int .i64 0, .int .i64 0, .slice none 0 0, .slice none 0 0, .string ⟨#[]⟩, .string ⟨#[]⟩, .string ⟨#[]⟩, .string ⟨#[]⟩] 26)
      have HO4 := Lib.hid (HO3.out.alloc (.cells #[.int .i64 op, .int .i64 0, .int .i64 0, .int .i64 0, .slice none 0 0, .slice none 0 0, .string ⟨#[]⟩, .string ⟨#[]⟩, .string ⟨#[]⟩, .string ⟨#[]⟩] 26))
      have HB4 := Lib.hid (below_al HB3.out (.cells #[.int .i64 op, .int .i64 0, .int .i64 0, .int .i64 0, .slice none 0 0, .slice none 0 0, .string ⟨#[]⟩, .string ⟨#[]⟩, .string ⟨#[]⟩, .string ⟨#[]⟩] 26))
      have RD4 := Lib.hid (rd_alloc hrd3 (.cells #[.int .i64 op, .int .i64 0, .int .i64 0, .int .i64 0, .slice none 0 0, .slice none 0 0, .string ⟨#[]⟩, .string ⟨#[]⟩, .string ⟨#[]⟩, .string ⟨#[]⟩] 26))
      clear hrd3 hg3 HO2 HB2 RD2 HO3 HB3
      generalize hW4 : w3.alloc (.cells #[.int .i64 op, .int .i64 0, .int .i64 0, .int .i64 0, .slice none 0 0, .slice none 0 0, .string ⟨#[]⟩, .string ⟨#[]⟩, .string ⟨#[]⟩, .string ⟨#[]⟩] 26) = W4 at hBX HO4 HB4 RD4 ⊢
      clear hW4
      obtain ⟨b0, b1, b2, b3, b4, b5, b6, b7, b8, b9⟩ := ten_cells hBX
      obtain ⟨c0, c1, c2, f0, f1, f2⟩ := three_cells RD4.out
      have HBX := Lib.hid hBX
      clear hBX
      obtain ⟨A2, c2', rfl, _, _, _⟩ := own_form HO4.out
      go_wp2_with (go_at_call 47; refine (kind_any _ _).mono ?_; rintro e w' ⟨rfl, rfl⟩; rw [HK.out])
      all_goals (try rw [Exit.noGoto_ret])
      all_goals go_ret3
      exact sc_no (A := none) (n := 0) (c := 0) (A2 := A2) (n2 := 1) (c2 := c2') HB4.out
    · exact I.elim

set_option maxRecDepth 100000 in
set_option maxHeartbeats 2000000 in
theorem scanD (s : ByteArray) (op : Int) (hs : s.size = 3) (hop : rdV s 0 1 false = op) (h1 : rdB s 0 1 = true) (hk : kindV op = 3) (h2 : rdB s 1 2 = true) (t : Int) (ht : rdV s 1 2 false = t) (w : World) :
    Calls Try.prog 64 #[.string s] w (ScRet w op t 0 0 true) := by
  have HK := Lib.hid hk
  have HOP := Lib.hid hop
  have H1 := Lib.hid h1
  clear hk hop h1
  have H2 := Lib.hid h2; clear h2
  have HT := Lib.hid ht; clear ht
  go_enter Try.func64, Try.ntmps64
  go_wp2
  go_step3
  go_upto_region 4 with fail
  have hB := below_al (Below.refl w.heap.size w) (.cells #[.string s, .int .i64 0, .bool false] 98)
  have hR := World.alloc_heap_new w (.cells #[.string s, .int .i64 0, .bool false] 98)
  generalize w.alloc (.cells #[.string s, .int .i64 0, .bool false] 98) = W1 at hB hR ⊢
  have RD := Lib.hid (show Rd W1 w.heap.size s 0 false from hR)
  have HB := Lib.hid hB
  clear hR hB
  go_wp2
  go_step3
  go_wp2
  go_loopw [5, 6, 8] (fun l pl e wr => e = .int .i64 0 ∧ ((l = .slice none 0 0 ∧ pl = .slice none 0 0 ∧ wr = W1) ∨ ScI w wr s op t 3 l pl)) (fun l _ _ _ => 5 - lenV l)
  case atStart => exact ⟨rfl, Or.inl ⟨rfl, rfl, rfl⟩⟩
  case round =>
    obtain ⟨rfl, ⟨rfl, rfl, rfl⟩ | I⟩ := hrel
    · have c1 := (three_cells RD.out).2.1
      have hsz := lt_heap RD.out
      have HO := Lib.hid (World.ownsRow_nil wr w.heap.size 3 1)
      go_upto_region 7 with (at_builtin; refine wpList_append_ints (by rfl) _ _ (by rfl) w.heap.size 0 1 1 (wr.heap.size + 1) [] [0] _ _ (by rfl) (HO.out.alloc _) (by rfl) (Row.one (ten_cell0 (new_at rfl)) (by omega)) rfl (fun h => by cases h) (by omega) (by simp; omega) ?_; intro v2 w2 ho hgr)
      have RD2 := Lib.hid (rd_grown (rd_alloc RD.out _) hgr (by simp [Value.ownBlock]))
      have hz2 := hgr.size
      simp only [World.size_alloc] at hz2
      have HO2 := Lib.hid ho
      have HB2 := Lib.hid ((below_al HB.out _).trans (grown_below hgr (fun k hk => by simp [Value.ownBlock] at hk) (below_al HB.out _).size))
      clear ho hgr HO c1
      go_upto_region 8 with (go_at_call 92; refine (number_any w.heap.size s 0 1 false false _ RD2.out (by omega) (by omega) (by omega) (by omega) (by omega)).mono ?_; rintro e w3 ⟨rfl, hrd3, hg3⟩; rw [HOP.out])
      rw [H1.out] at hrd3
      have HO3 := Lib.hid (HO2.out.kept hg3 (Or.inr (fun e => own_rd HO2.out RD2.out (by decide) e)))
      have HB3 := Lib.hid (HB2.out.trans (grown_below hg3 (fun k hk => by injection hk with hk; omega) HB2.out.size))
      have hz3 := hg3.size
      have hBX := World.alloc_heap_new w3 (.cells #[.int .i64 op, .int .i64 0, .int .i64 0, .int .i64 0, .slice none 0 0, .slice none 0 0, .string ⟨#[]⟩, .string ⟨#[]⟩, .string ⟨#[]⟩, .string ⟨#[]⟩] 26)
      have HO4 := Lib.hid (HO3.out.alloc (.cells #[.int .i64 op, .int .i64 0, .int .i64 0, .int .i64 0, .slice none 0 0, .slice none 0 0, .string ⟨#[]⟩, .string ⟨#[]⟩, .string ⟨#[]⟩, .string ⟨#[]⟩] 26))
      have HB4 := Lib.hid (below_al HB3.out (.cells #[.int .i64 op, .int .i64 0, .int .i64 0, .int .i64 0, .slice none 0 0, .slice none 0 0, .string ⟨#[]⟩, .string ⟨#[]⟩, .string ⟨#[]⟩, .string ⟨#[]⟩] 26))
      have RD4 := Lib.hid (rd_alloc hrd3 (.cells #[.int .i64 op, .int .i64 0, .int .i64 0, .int .i64 0, .slice none 0 0, .slice none 0 0, .string ⟨#[]⟩, .string ⟨#[]⟩, .string ⟨#[]⟩, .string ⟨#[]⟩] 26))
      clear hrd3 hg3 HO2 HB2 RD2 HO3 HB3
      generalize hW4 : w3.alloc (.cells #[.int .i64 op, .int .i64 0, .int .i64 0, .int .i64 0, .slice none 0 0, .slice none 0 0, .string ⟨#[]⟩, .string ⟨#[]⟩, .string ⟨#[]⟩, .string ⟨#[]⟩] 26) = W4 at hBX HO4 HB4 RD4 ⊢
      clear hW4
      obtain ⟨b0, b1, b2, b3, b4, b5, b6, b7, b8, b9⟩ := ten_cells hBX
      obtain ⟨c0, c1, c2, f0, f1, f2⟩ := three_cells RD4.out
      have HBX := Lib.hid hBX
      clear hBX
      have bz := lt_heap HBX.out
      have rz := lt_heap RD4.out
      have hne : w3.heap.size ≠ w.heap.size := by omega
      go_upto_region 35 with (go_at_call 47; refine (kind_any _ _).mono ?_; rintro e w' ⟨rfl, rfl⟩; rw [HK.out])
      go_upto_region 36 with (go_at_call 92; refine (number_any w.heap.size s 1 2 false false _ RD4.out (by omega) (by omega) (by omega) (by omega) (by omega)).mono ?_; rintro e w5 ⟨rfl, hrd5, hg5⟩; have hb5 := (hg5.block w3.heap.size bz (fun e => hne (Option.some.inj e))).trans HBX.out; obtain ⟨b0, b1, b2, b3, b4, b5, b6, b7, b8, b9⟩ := ten_cells hb5; have fz := frozen_ten hb5 3; rw [HT.out])
      rw [H2.out] at hrd5
      have hz5 := hg5.size
      have hB5 := HB4.out.trans (grown_below hg5 (fun k hk => by injection hk with hk; omega) HB4.out.size)
      have HB6 := Lib.hid (below_st hB5 (p := ⟨w3.heap.size, 3, none⟩) (by show w.heap.size ≤ w3.heap.size; omega) (.int .i64 t))
      have hb6 := heap_setCell_same w5 w3.heap.size 3 _ _ (.int .i64 t) hb5
      have RD6 := Lib.hid (show Rd (w5.setCell ⟨w3.heap.size, 3, none⟩ (.int .i64 t)) w.heap.size s 3 false from (heap_setCell_other w5 ⟨w3.heap.size, 3, none⟩ w.heap.size _ (fun e => hne e.symm)).trans hrd5)
      have HO6 := Lib.hid ((HO4.out.kept hg5 (Or.inr (fun e => own_rd HO4.out RD4.out (by decide) e))).kept (grown_set (w := w5) (g := w3.heap.size) (j := 3) (u := .int .i64 t)) (Or.inr (fun e => own_not HO4.out HBX.out (by decide) e)))
      generalize hW6 : w5.setCell ⟨w3.heap.size, 3, none⟩ (.int .i64 t) = W6 at hb6 HB6 RD6 HO6 ⊢
      clear hW6 b0 b1 b2 b3 b4 b5 b6 b7 b8 b9 hb5 hB5 hrd5 fz
      obtain ⟨b0, b1, b2, b3, b4, b5, b6, b7, b8, b9⟩ := ten_cells hb6
      obtain ⟨c0, c1, c2, f0, f1, f2⟩ := three_cells RD6.out
      have HL := Lib.hid ((World.ownsRow_nil W6 w.heap.size 26 10).alloc (.cells (icells (inP op 0 0 t)).toArray 26))
      clear hb6
      go_wp2_with (at_builtin; refine wpList_append_inst (by rfl) _ _ (by rfl) w.heap.size 0 W6.heap.size [] (inP op 0 0 t) _ (by rfl) HL.out (by rfl) (cells_at (i := inP op 0 0 t) (World.alloc_heap_new _ _)) (by omega) (by have := HB6.out.size; simp; omega) ?_; intro v5 w7 ho5 hg5)
      refine ⟨⟨rfl, Or.inr ⟨ho5, (HO6.out.alloc _).kept hg5 (Classical.em _), rd_grown (rd_alloc RD6.out _) hg5 (by simp [Value.ownBlock]), (below_al HB6.out _).trans (grown_below hg5 (fun k hk => by simp [Value.ownBlock] at hk) (below_al HB6.out _).size)⟩⟩, ?_⟩
      obtain ⟨A5, c5, rfl, _, _, _⟩ := own_form ho5
      show 5 - 1 < 5 - 0
      decide
    · obtain ⟨c0, c1, c2', f0, f1, f2⟩ := three_cells I.rd
      have hsz := I.bel.size
      obtain ⟨A, c, rfl, _, _, _⟩ := own_form I.own
      obtain ⟨A2, c2, rfl, _, _, _⟩ := own_form I.pl
      have hI := Lib.hid I
      clear I
      go_wp2
      all_goals (try rw [Exit.noGoto_ret])
      all_goals go_ret3
      exact sc_ok hI.out.own hI.out.pl hI.out.bel

end Go.Proofs.Ytpghkdmljanncaa
