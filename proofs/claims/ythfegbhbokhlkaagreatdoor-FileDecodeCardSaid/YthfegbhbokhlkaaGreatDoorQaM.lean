import Derived.Test.YthfegbhbokhlkaaGreatDoorGaM
import Derived.Test.YthfegbhbokhlkaaGreatDoorOctM
import Derived.Test.YthfegbhbokhlkaaGreatDoorReg

/- Qa -/
/- Layer 11: the reference's reader: a count, numbers. -/
namespace Go.Proofs.YthfegbhbokhlkaaGreatDoor
open Go.ChangeShapes Go.WideShapes Go.ChangeAt Go.RowKit Go.PlainAid
set_option linter.unusedSimpArgs false
set_option linter.unusedVariables false

theorem newI {w : World} (x : Int) : ∀ j u, (iF x)[j]? = some u → (w.alloc (.cells #[.int .i64 x] 3)).cell? ⟨w.heap.size, j, none⟩ = some u := by
  intro j u hu
  have h := World.alloc_heap_new w (.cells #[.int .i64 x] 3)
  generalize w.alloc (.cells #[.int .i64 x] 3) = W at h ⊢
  rcases j with _ | j
  · simp [iF] at hu; subst hu; simp [World.cell?, h]
  · simp [iF] at hu
/-- what a count hands back -/
def cuR (s : ByteArray) (p m : Int) : Value := .tuple #[.int .i64 (if cuE s p m = 0 then unsV s p 2 else 0), .int .i64 (if cuE s p m = 0 then p + 2 else p), .int .i64 (cuE s p m)]
theorem rcount_any (s : ByteArray) (p q : Int) (hs : s.size ≤ 2000000) (hp : 0 ≤ p ∧ p ≤ s.size) (hq : 0 ≤ q ∧ q ≤ 65535) (w : World) :
    Calls Tryz.prog 37 #[.string s, .int .i64 p, .int .i64 q] w fun e w' => e = .returned (cuR s p q) ∧ w = w' := by
  have hU := runs_any s p 2 (by omega) w
  have hu := uns2_bd s p
  obtain ⟨hp0, hp1⟩ := hp
  unfold cuR
  rcases nu_e (s := s) (q := p) ⟨hp0, hp1⟩ with h0 | h0
  · by_cases hb : q < unsV s p 2
    · have hc : cuE s p q = 5 := by unfold cuE; rw [if_pos h0, if_pos hb]
      rw [hc, if_neg (by decide), if_neg (by decide)]
      rw [h0] at hU
      generalize unsV s p 2 = x at hU hu hb
      clear hc h0
      go_enter Tryz.func37, Tryz.ntmps37
      go_wp2_with (go_at_call 57; refine (hU).mono ?_; rintro e w' ⟨rfl, rfl⟩)
      go_returns
      exact ⟨rfl, rfl⟩
    · have hc : cuE s p q = 0 := by unfold cuE; rw [if_pos h0, if_neg hb]
      rw [hc, if_pos rfl, if_pos rfl]
      rw [h0] at hU
      generalize unsV s p 2 = x at hU hu hb ⊢
      clear hc h0
      go_enter Tryz.func37, Tryz.ntmps37
      go_wp2_with (go_at_call 57; refine (hU).mono ?_; rintro e w' ⟨rfl, rfl⟩)
      go_returns
      exact ⟨rfl, rfl⟩
  · have hc : cuE s p q = 3 := by unfold cuE; rw [if_neg (by omega)]
    rw [hc, if_neg (by decide), if_neg (by decide)]
    rw [h0] at hU
    generalize unsV s p 2 = x at hU hu
    clear hc h0
    go_enter Tryz.func37, Tryz.ntmps37
    go_wp2_with (go_at_call 57; refine (hU).mono ?_; rintro e w' ⟨rfl, rfl⟩)
    go_returns
    exact ⟨rfl, rfl⟩

def NsRet (w : World) (s : ByteArray) (p : Int) (m : Nat) (r : Ending) (w' : World) : Prop :=
  ∃ A n c L p', r = .returned (.tuple #[.slice A n c, .int .i64 p', .int .i64 (lkE (nuC s) nuN (nuE s) p m)]) ∧ OwnR iF 1 3 w' w.heap.size A n c L ∧ Below w.heap.size w w' ∧ (lkE (nuC s) nuN (nuE s) p m = 0 → p' = lkN (nuC s) nuN (nuE s) p m ∧ L = lkL (nuC s) nuN (nuE s) p m)
structure NsI (w wr : World) (s : ByteArray) (p : Int) (m k : Nat) (A : Option Addr) (c : Nat) (L : List Int) (pk : Int) : Prop where
  le : k ≤ m
  own : OwnR iF 1 3 wr w.heap.size A k c L
  bel : Below w.heap.size w wr
  rng : 0 ≤ pk ∧ pk ≤ s.size
  err : lkE (nuC s) nuN (nuE s) p k = 0
  pos : pk = lkN (nuC s) nuN (nuE s) p k
  val : L = lkL (nuC s) nuN (nuE s) p k
theorem NsI.done {w wr : World} {s : ByteArray} {p : Int} {m : Nat} {A : Option Addr} {c : Nat} {L : List Int} {pk : Int} (I : NsI w wr s p m m A c L pk) : NsRet w s p m (.returned (.tuple #[.slice A m c, .int .i64 pk, .int .i64 0])) wr :=
  ⟨A, m, c, L, pk, by rw [I.err], I.own, I.bel, fun _ => ⟨I.pos, I.val⟩⟩
theorem NsI.cut {w wr : World} {s : ByteArray} {p : Int} {m k : Nat} {A : Option Addr} {c : Nat} {L : List Int} {pk : Int} (I : NsI w wr s p m k A c L pk) (hlt : k < m) (h : nuE s pk = 3) : NsRet w s p m (.returned (.tuple #[.slice none 0 0, .int .i64 pk, .int .i64 3])) wr := by
  have e1 : lkE (nuC s) nuN (nuE s) p (k + 1) = 3 := by rw [(lk_ok I.err).2.2, ← I.pos]; exact h
  have e2 : lkE (nuC s) nuN (nuE s) p m = 3 := (lk_stay (by rw [e1]; decide) m hlt).trans e1
  exact ⟨none, 0, 0, [], pk, by rw [e2], OwnR.nil _ _ _ _ _, I.bel, fun h0 => absurd h0 (by omega)⟩
theorem NsI.step {w wr w' : World} {s : ByteArray} {p : Int} {m k : Nat} {A A' : Option Addr} {c c' : Nat} {L : List Int} {pk x : Int} (I : NsI w wr s p m k A c L pk) (hlt : k < m) (h : nuE s pk = 0) (hx : unsV s pk 2 = x) (hO : OwnR iF 1 3 w' w.heap.size A' (k + 1) c' (L ++ [x])) (hb : Below w.heap.size w w') :
    NsI w w' s p m (k + 1) A' c' (L ++ [x]) (pk + 2) := by
  obtain ⟨l1, l2, l3⟩ := lk_ok I.err
  have hr := nu_ok I.rng.1 I.rng.2 h
  have hr' := I.rng
  unfold nuN at hr
  refine ⟨by omega, hO, hb, by omega, by rw [l3, ← I.pos]; exact h, by rw [l2, ← I.pos]; rfl, by rw [l1, ← I.pos, ← I.val, ← hx]; rfl⟩

set_option maxRecDepth 100000 in
set_option maxHeartbeats 2000000 in
theorem rnums_any (s : ByteArray) (p : Int) (m : Nat) (hs : s.size ≤ 2000000) (hp : 0 ≤ p ∧ p ≤ s.size) (hm : m ≤ 60000) (w : World) :
    Calls Tryz.prog 36 #[.string s, .int .i64 p, .int .i64 (m : Int)] w (NsRet w s p m) := by
  have HP := Lib.hid hp
  clear hp
  go_enter Tryz.func36, Tryz.ntmps36
  go_wp2
  go_loopw [1, 9, 10] (fun at' v ctr wr => ∃ (k : Nat) (A : Option Addr) (c : Nat) (L : List Int) (pk : Int), at' = .int .i64 pk ∧ v = .slice A k c ∧ ctr = .int .i64 k ∧ NsI w wr s p m k A c L pk) (fun at' v ctr _ => m - (intOf ctr).toNat)
  case atStart => exact ⟨0, none, 0, [], p, rfl, rfl, rfl, Nat.zero_le _, OwnR.nil _ _ _ _ _, Below.refl _ _, HP.out, rfl, rfl, rfl⟩
  case round =>
    obtain ⟨k, A, c, L, pk, rfl, rfl, rfl, I⟩ := hrel
    have hle := I.le
    have II := Lib.hid I
    obtain ⟨hp0, hp1⟩ := I.rng
    have hsz := I.bel.size
    clear I
    by_cases hkm : k < m
    · have HU := fun W => runs_any s pk 2 (by omega) W
      rcases nu_e II.out.rng with h0 | h0
      · rw [h0] at HU
        obtain ⟨x, hx⟩ : ∃ x, unsV s pk 2 = x := ⟨_, rfl⟩
        rw [hx] at HU
        have HU' := Lib.hid HU
        have HX := Lib.hid hx
        have H0 := Lib.hid h0
        clear HU hx h0
        go_wp2_with (first | (go_at_call 57; refine (HU'.out _).mono ?_; rintro e w1 ⟨rfl, rfl⟩) | (at_builtin; refine append_iF (by rfl) _ _ (by rfl) (by rfl) (II.out.own.below (below_al (Below.refl _ _) _)) (by rfl) (newI x) (by omega) (by simp; omega) ?_; intro A2 c2' w9 hO9 hb9 hg9))
        go_roundw
        case rel => exact ⟨k + 1, A2, c2', _, pk + 2, by go_num, rfl, by go_num, NsI.step II.out hkm H0.out HX.out hO9 ((below_al II.out.bel _).trans hb9)⟩
        case measure => simp [intOf]; omega
      · rw [h0] at HU
        obtain ⟨x, hx⟩ : ∃ x, unsV s pk 2 = x := ⟨_, rfl⟩
        rw [hx] at HU
        have HU' := Lib.hid HU
        have H0 := Lib.hid h0
        clear HU hx h0
        go_wp2_with (go_at_call 57; refine (HU'.out _).mono ?_; rintro e w1 ⟨rfl, rfl⟩)
        go_ret3
        exact NsI.cut II.out hkm H0.out
    · obtain rfl : k = m := by omega
      go_wp2
      go_ret3
      exact NsI.done II.out

end Go.Proofs.YthfegbhbokhlkaaGreatDoor

/- Qb -/
/- Layer 11: the reference's reader: attributes. -/
namespace Go.Proofs.YthfegbhbokhlkaaGreatDoor
open Go.ChangeShapes Go.WideShapes Go.ChangeAt Go.RowKit Go.PlainAid
set_option linter.unusedSimpArgs false
set_option linter.unusedVariables false

def AtRet (w : World) (s : ByteArray) (p : Int) (r : Ending) (w' : World) : Prop :=
  ∃ A n c L p', r = .returned (.tuple #[.slice A n c, .int .i64 p', .int .i64 (asE s p)]) ∧ OwnR aF 2 93 w' w.heap.size A n c L ∧ Below w.heap.size w w' ∧ (asE s p = 0 → p' = asN s p ∧ L = asL s p)
structure AtI (w wr : World) (s : ByteArray) (q : Int) (m k : Nat) (A : Option Addr) (c : Nat) (L : List Atr) (pk : Int) : Prop where
  le : k ≤ m
  own : OwnR aF 2 93 wr w.heap.size A k c L
  bel : Below w.heap.size w wr
  rng : 0 ≤ pk ∧ pk ≤ s.size
  err : lkE (taC s) (taN s) (taE s) q k = 0
  pos : pk = lkN (taC s) (taN s) (taE s) q k
  val : L = lkL (taC s) (taN s) (taE s) q k
theorem AtI.start {w : World} {s : ByteArray} {q : Int} {m : Nat} (hq : 0 ≤ q ∧ q ≤ s.size) : AtI w w s q m 0 none 0 [] q :=
  ⟨Nat.zero_le _, OwnR.nil _ _ _ _ _, Below.refl _ _, hq, rfl, rfl, rfl⟩
theorem AtRet.no {w w' : World} {s : ByteArray} {p pk e : Int} (h : asE s p = e) (he : ¬ e = 0) (hb : Below w.heap.size w w') : AtRet w s p (.returned (.tuple #[.slice none 0 0, .int .i64 pk, .int .i64 e])) w' :=
  ⟨none, 0, 0, [], pk, by rw [h], OwnR.nil _ _ _ _ _, hb, fun h0 => absurd (h.symm.trans h0) he⟩
theorem AtI.done {w wr : World} {s : ByteArray} {p : Int} {m : Nat} {A : Option Addr} {c : Nat} {L : List Atr} {pk : Int} (I : AtI w wr s (p + 2) m m A c L pk) (hc : cuE s p 16 = 0) (hm : (unsV s p 2).toNat = m) : AtRet w s p (.returned (.tuple #[.slice A m c, .int .i64 pk, .int .i64 0])) wr := by
  have hE : asE s p = 0 := by unfold asE; rw [if_pos hc, hm]; exact I.err
  exact ⟨A, m, c, L, pk, by rw [hE], I.own, I.bel, fun _ => ⟨by rw [I.pos]; unfold asN; rw [hm], by rw [I.val]; unfold asL; rw [hm]⟩⟩
theorem AtI.cut {w wr : World} {s : ByteArray} {p e : Int} {m k : Nat} {A : Option Addr} {c : Nat} {L : List Atr} {pk : Int} (I : AtI w wr s (p + 2) m k A c L pk) (hc : cuE s p 16 = 0) (hm : (unsV s p 2).toNat = m) (hlt : k < m) (h : taE s pk = e) (he : ¬ e = 0) : AtRet w s p (.returned (.tuple #[.slice none 0 0, .int .i64 pk, .int .i64 e])) wr := by
  have e1 : lkE (taC s) (taN s) (taE s) (p + 2) (k + 1) = e := by rw [(lk_ok I.err).2.2, ← I.pos]; exact h
  have e2 : lkE (taC s) (taN s) (taE s) (p + 2) m = e := (lk_stay (by rw [e1]; exact he) m hlt).trans e1
  exact AtRet.no (by unfold asE; rw [if_pos hc, hm, e2]) he I.bel
theorem AtI.step {w wr w' : World} {s : ByteArray} {q : Int} {m k : Nat} {A A' : Option Addr} {c c' : Nat} {L : List Atr} {pk p' : Int} {x : Atr} (I : AtI w wr s q m k A c L pk) (hlt : k < m) (h : taE s pk = 0) (hp : p' = taN s pk) (hx : x = taC s pk) (hO : OwnR aF 2 93 w' w.heap.size A' (k + 1) c' (L ++ [x])) (hb : Below w.heap.size w w') :
    AtI w w' s q m (k + 1) A' c' (L ++ [x]) p' := by
  obtain ⟨l1, l2, l3⟩ := lk_ok I.err
  have hr := ta_ok I.rng.1 I.rng.2 h
  have hr' := I.rng
  refine ⟨by omega, hO, hb, by omega, by rw [l3, ← I.pos]; exact h, by rw [l2, ← I.pos]; exact hp, by rw [l1, ← I.pos, ← I.val, hx]⟩

set_option maxRecDepth 100000 in
set_option maxHeartbeats 4000000 in
theorem rattrs_any (s : ByteArray) (p : Int) (hs : s.size ≤ 2000000) (hp : 0 ≤ p ∧ p ≤ s.size) (w : World) :
    Calls Tryz.prog 39 #[.string s, .int .i64 p] w (AtRet w s p) := by
  have hC := rcount_any s p 16 hs hp (by omega) w
  unfold cuR at hC
  by_cases hc : cuE s p 16 = 0
  · obtain ⟨hc1, hc2, hc3, hc4⟩ := cu_0 hc
    rw [hc, if_pos rfl, if_pos rfl] at hC
    have hu := uns2_bd s p
    obtain ⟨m, hm⟩ : ∃ m : Nat, unsV s p 2 = (m : Int) := ⟨(unsV s p 2).toNat, by omega⟩
    rw [hm] at hC
    have hm16 : m ≤ 16 := by omega
    have HM := Lib.hid (show (unsV s p 2).toNat = m by omega)
    have HC := Lib.hid hc
    clear hc hm hc1 hc2 hu
    go_enter Tryz.func39, Tryz.ntmps39
    go_wp2_with (go_at_call 37; refine (hC).mono ?_; rintro e w' ⟨rfl, rfl⟩)
    go_loopw [1, 9, 10] (fun at' v ctr wr => ∃ (k : Nat) (A : Option Addr) (c : Nat) (L : List Atr) (pk : Int), at' = .int .i64 pk ∧ v = .slice A k c ∧ ctr = .int .i64 k ∧ AtI w wr s (p + 2) m k A c L pk) (fun at' v ctr _ => m - (intOf ctr).toNat)
    case atStart => exact ⟨0, none, 0, [], p + 2, rfl, rfl, rfl, AtI.start ⟨by omega, by omega⟩⟩
    case round =>
      obtain ⟨k, A, c, L, pk, rfl, rfl, rfl, I⟩ := hrel
      have hle := I.le
      have II := Lib.hid I
      obtain ⟨hp0, hp1⟩ := I.rng
      have hsz := I.bel.size
      clear I
      by_cases hkm : k < m
      · have HU := fun W => runs_any s pk 2 (by omega) W
        obtain ⟨x, hx⟩ : ∃ x, unsV s pk 2 = x := ⟨_, rfl⟩
        rw [hx] at HU
        rcases nu_e II.out.rng with h0 | h0
        · have hr := un_0 ok2 h0
          have HV := fun W => runs_any s (pk + 2) 4 (by omega) W
          obtain ⟨y, hy⟩ : ∃ y, unsV s (pk + 2) 4 = y := ⟨_, rfl⟩
          have hyb := un4_bd s (pk + 2)
          rw [hy] at HV hyb
          obtain ⟨hy0, hy1⟩ := hyb
          rw [h0] at HU
          have HU' := Lib.hid HU
          clear HU
          rcases un_e (s := s) (p := pk + 2) (by omega) ok4 with h1 | h1
          · have hr2 := un_0 ok4 h1
            rw [h1] at HV
            have HV' := Lib.hid HV
            clear HV
            by_cases hbig : 65535 < y
            · have HT := Lib.hid (show taE s pk = 8 by unfold taE; rw [if_pos h0, if_pos h1, hy, if_pos hbig])
              clear h0 h1 hx hy
              go_wp2_with (first | (go_at_call 57; with_reducible refine (HU'.out _).mono ?_; rintro e w1 ⟨rfl, rfl⟩) | (go_at_call 57; with_reducible refine (HV'.out _).mono ?_; rintro e w1 ⟨rfl, rfl⟩))
              go_ret3
              exact AtI.cut II.out HC.out HM.out hkm HT.out (by decide)
            · by_cases hlong : (s.size : Int) - (pk + 6) < y
              · have HT := Lib.hid (show taE s pk = 3 by unfold taE; rw [if_pos h0, if_pos h1, hy, if_neg hbig, if_pos hlong])
                have hlong' : (s.size : Int) - pk - 6 < y := by omega
                clear h0 h1 hx hy
                go_wp2_with (first | (go_at_call 57; with_reducible refine (HU'.out _).mono ?_; rintro e w1 ⟨rfl, rfl⟩) | (go_at_call 57; with_reducible refine (HV'.out _).mono ?_; rintro e w1 ⟨rfl, rfl⟩))
                go_ret3
                exact AtI.cut II.out HC.out HM.out hkm HT.out (by decide)
              · have HT := Lib.hid (show taE s pk = 0 by unfold taE; rw [if_pos h0, if_pos h1, hy, if_neg hbig, if_neg hlong])
                have hlong' : ¬ (s.size : Int) - pk - 6 < y := by omega
                have HN := Lib.hid (show pk + 6 + y = taN s pk by unfold taN; rw [hy])
                have HX := Lib.hid (show (⟨x, s.extract (pk + 6).toNat (pk + 6 + y).toNat⟩ : Atr) = taC s pk by unfold taC; rw [hx, hy])
                clear h0 h1 hx hy hlong
                go_wp2_with (first | (go_at_call 57; with_reducible refine (HU'.out _).mono ?_; rintro e w1 ⟨rfl, rfl⟩) | (go_at_call 57; with_reducible refine (HV'.out _).mono ?_; rintro e w1 ⟨rfl, rfl⟩) | (at_builtin; refine append_aF (by rfl) _ _ (by rfl) (by rfl) (II.out.own.below (below_al (Below.refl _ _) _)) (by rfl) (newA ⟨x, s.extract (pk + 6).toNat (pk + 6 + y).toNat⟩) (by omega) (by simp; omega) ?_; intro A2 c2' w9 hO9 hb9 hg9))
                go_roundw
                case rel => exact ⟨k + 1, A2, c2', _, pk + 6 + y, by first | rfl | go_num, rfl, by go_num, AtI.step II.out hkm HT.out HN.out HX.out hO9 ((below_al II.out.bel _).trans hb9)⟩
                case measure => simp [intOf]; omega
          · rw [h1] at HV
            have HV' := Lib.hid HV
            have HT := Lib.hid (show taE s pk = 3 by unfold taE; rw [if_pos h0, if_neg (by omega)])
            clear HV h0 h1 hx hy
            go_wp2_with (first | (go_at_call 57; with_reducible refine (HU'.out _).mono ?_; rintro e w1 ⟨rfl, rfl⟩) | (go_at_call 57; with_reducible refine (HV'.out _).mono ?_; rintro e w1 ⟨rfl, rfl⟩))
            go_ret3
            exact AtI.cut II.out HC.out HM.out hkm HT.out (by decide)
        · rw [h0] at HU
          have HU' := Lib.hid HU
          have HT := Lib.hid (show taE s pk = 3 by unfold taE; rw [if_neg (by omega)])
          clear HU hx h0
          go_wp2_with (go_at_call 57; with_reducible refine (HU'.out _).mono ?_; rintro e w1 ⟨rfl, rfl⟩)
          go_ret3
          exact AtI.cut II.out HC.out HM.out hkm HT.out (by decide)
      · obtain rfl : k = m := by omega
        go_wp2
        go_ret3
        exact AtI.done II.out HC.out HM.out
  · rw [if_neg hc, if_neg hc] at hC
    have HE := Lib.hid (show asE s p = cuE s p 16 by unfold asE; rw [if_neg hc])
    have HB := Lib.hid hc
    have hne : (cuE s p 16 != 0) = true := by simpa using hc
    generalize cuE s p 16 = e at hC HE HB hne
    clear hc
    go_enter Tryz.func39, Tryz.ntmps39
    go_wp2_with (go_at_call 37; refine (hC).mono ?_; rintro e w' ⟨rfl, rfl⟩)
    go_ret3
    exact AtRet.no HE.out HB.out (Below.refl _ _)

end Go.Proofs.YthfegbhbokhlkaaGreatDoor

/- Qc -/
/- Layer 11: the reference's reader: three numbers, members. -/
namespace Go.Proofs.YthfegbhbokhlkaaGreatDoor
open Go.ChangeShapes Go.WideShapes Go.ChangeAt Go.RowKit Go.PlainAid
set_option linter.unusedSimpArgs false
set_option linter.unusedVariables false

theorem lk3 {s : ByteArray} {p : Int} (hp : 0 ≤ p ∧ p ≤ s.size) :
    (lkE (nuC s) nuN (nuE s) p 3 = 0 ∧ (unsE s p 2 = 0 ∧ unsE s (p + 2) 2 = 0 ∧ unsE s (p + 4) 2 = 0) ∧ lkN (nuC s) nuN (nuE s) p 3 = p + 6 ∧ lkL (nuC s) nuN (nuE s) p 3 = [unsV s p 2, unsV s (p + 2) 2, unsV s (p + 4) 2]) ∨
    (lkE (nuC s) nuN (nuE s) p 3 = 3 ∧ ¬ (unsE s p 2 = 0 ∧ unsE s (p + 2) 2 = 0 ∧ unsE s (p + 4) 2 = 0)) := by
  obtain ⟨l1, n1, x1⟩ := lk_ok (C := nuC s) (N := nuN) (E := nuE s) (p := p) (k := 0) rfl
  have l1' : lkL (nuC s) nuN (nuE s) p 1 = [unsV s p 2] := l1
  have q1 : lkN (nuC s) nuN (nuE s) p 1 = p + 2 := n1
  have x1' : lkE (nuC s) nuN (nuE s) p 1 = unsE s p 2 := x1
  clear l1 n1 x1
  rcases nu_e hp with h1 | h1
  · have e1 := x1'.trans h1
    obtain ⟨l2, n2, x2⟩ := lk_ok (k := 1) e1
    rw [q1] at l2 n2 x2
    rw [l1'] at l2
    have r1 := un_0 ok2 h1
    have l2' : lkL (nuC s) nuN (nuE s) p 2 = [unsV s p 2, unsV s (p + 2) 2] := l2
    have q2 : lkN (nuC s) nuN (nuE s) p 2 = p + 4 := by
      have h : lkN (nuC s) nuN (nuE s) p 2 = p + 2 + 2 := n2
      omega
    have x2' : lkE (nuC s) nuN (nuE s) p 2 = unsE s (p + 2) 2 := x2
    clear l2 n2 x2
    rcases nu_e (s := s) (q := p + 2) (by omega) with h2 | h2
    · have e2 := x2'.trans h2
      obtain ⟨l3, n3, x3⟩ := lk_ok (k := 2) e2
      rw [q2] at l3 n3 x3
      rw [l2'] at l3
      have r2 := un_0 ok2 h2
      have q3 : lkN (nuC s) nuN (nuE s) p 3 = p + 6 := by
        have h : lkN (nuC s) nuN (nuE s) p 3 = p + 4 + 2 := n3
        omega
      have x3' : lkE (nuC s) nuN (nuE s) p 3 = unsE s (p + 4) 2 := x3
      rcases nu_e (s := s) (q := p + 4) (by omega) with h3 | h3
      · exact Or.inl ⟨x3'.trans h3, ⟨h1, h2, h3⟩, q3, l3⟩
      · exact Or.inr ⟨x3'.trans h3, fun h => by omega⟩
    · have e2 := x2'.trans h2
      exact Or.inr ⟨(lk_no (k := 2) (by omega)).trans e2, fun h => by omega⟩
  · have e1 := x1'.trans h1
    exact Or.inr ⟨(lk_stay (k := 1) (by omega) 3 (by omega)).trans e1, fun h => by omega⟩
theorem rthree_ok (s : ByteArray) (p : Int) (hs : s.size ≤ 2000000) (hp : 0 ≤ p ∧ p ≤ s.size) (he : unsE s p 2 = 0 ∧ unsE s (p + 2) 2 = 0 ∧ unsE s (p + 4) 2 = 0) (w : World) :
    Calls Tryz.prog 36 #[.string s, .int .i64 p, .int .i64 3] w fun r w' => ∃ A c, r = .returned (.tuple #[.slice A 3 c, .int .i64 (p + 6), .int .i64 0]) ∧ OwnR iF 1 3 w' w.heap.size A 3 c [unsV s p 2, unsV s (p + 2) 2, unsV s (p + 4) 2] ∧ Below w.heap.size w w' := by
  have h := rnums_any s p 3 hs hp (by omega) w
  rw [show ((3 : Nat) : Int) = 3 from rfl] at h
  refine h.mono ?_
  rintro r w' ⟨A, n, c, L, p', rfl, hO, hb, hv⟩
  rcases lk3 hp with ⟨e, _, hn, hl⟩ | ⟨_, h3⟩
  · obtain ⟨rfl, rfl⟩ := hv e
    rw [hl] at hO
    obtain rfl : 3 = n := hO.len
    rw [e, hn]
    exact ⟨A, c, rfl, hO, hb⟩
  · exact absurd he h3
theorem rthree_no (s : ByteArray) (p : Int) (hs : s.size ≤ 2000000) (hp : 0 ≤ p ∧ p ≤ s.size) (he : ¬ (unsE s p 2 = 0 ∧ unsE s (p + 2) 2 = 0 ∧ unsE s (p + 4) 2 = 0)) (w : World) :
    Calls Tryz.prog 36 #[.string s, .int .i64 p, .int .i64 3] w fun r w' => ∃ A n c p', r = .returned (.tuple #[.slice A n c, .int .i64 p', .int .i64 3]) ∧ Below w.heap.size w w' := by
  have h := rnums_any s p 3 hs hp (by omega) w
  rw [show ((3 : Nat) : Int) = 3 from rfl] at h
  refine h.mono ?_
  rintro r w' ⟨A, n, c, L, p', rfl, hO, hb, hv⟩
  rcases lk3 hp with ⟨_, h3, _⟩ | ⟨e, _⟩
  · exact absurd h3 he
  · rw [e]; exact ⟨A, n, c, p', rfl, hb⟩
theorem three_cellsN {w : World} {base c : Nat} {A : Option Addr} {a b d : Int} (h : OwnR iF 1 3 w base A 3 c [a, b, d]) :
    ∃ g o, A = some ⟨g, o, none⟩ ∧ w.cell? ⟨g, o, none⟩ = some (.int .i64 a) ∧ w.cell? ⟨g, o + 1, none⟩ = some (.int .i64 b) ∧ w.cell? ⟨g, o + 2, none⟩ = some (.int .i64 d) := by
  have r := h.row iF_len (by decide)
  obtain ⟨g, o, hA, _, h0⟩ := r.get (k := 0) rfl
  obtain ⟨g1, o1, hA1, _, h1⟩ := r.get (k := 1) rfl
  obtain ⟨g2, o2, hA2, _, h2⟩ := r.get (k := 2) rfl
  cases hA.symm.trans hA1
  cases hA.symm.trans hA2
  exact ⟨g, o, hA, by simpa using h0 0 _ rfl, by simpa using h1 0 _ rfl, by simpa using h2 0 _ rfl⟩
theorem rat_ok (s : ByteArray) (p : Int) (hs : s.size ≤ 2000000) (hp : 0 ≤ p ∧ p ≤ s.size) (he : asE s p = 0) (w : World) :
    Calls Tryz.prog 39 #[.string s, .int .i64 p] w fun r w' => ∃ A n c, r = .returned (.tuple #[.slice A n c, .int .i64 (asN s p), .int .i64 0]) ∧ OwnR aF 2 93 w' w.heap.size A n c (asL s p) ∧ Below w.heap.size w w' := by
  refine (rattrs_any s p hs hp w).mono ?_
  rintro r w' ⟨A, n, c, L, p', rfl, hO, hb, hv⟩
  obtain ⟨rfl, rfl⟩ := hv he
  rw [he]
  exact ⟨A, n, c, rfl, hO, hb⟩
theorem rat_no (s : ByteArray) (p e : Int) (hs : s.size ≤ 2000000) (hp : 0 ≤ p ∧ p ≤ s.size) (he : asE s p = e) (w : World) :
    Calls Tryz.prog 39 #[.string s, .int .i64 p] w fun r w' => ∃ A n c p', r = .returned (.tuple #[.slice A n c, .int .i64 p', .int .i64 e]) ∧ Below w.heap.size w w' := by
  refine (rattrs_any s p hs hp w).mono ?_
  rintro r w' ⟨A, n, c, L, p', rfl, hO, hb, hv⟩
  rw [he]
  exact ⟨A, n, c, p', rfl, hb⟩

theorem step_append_mF {w : World} {ops : Array Oper} {o : Oper} {a : Act} {K : Act → World → Prop} {Q : Exit → Act → World → Prop} {E : Prop} (hg : o.guard = none) (s x : Operand)
    (hop : o.op = Op.call { callee := Callee.builtin Builtin.append, args := #[s, x], argTypes := #[24, 24] })
    {base n c B : Nat} {A : Option Addr} {L : List Mb} {i : Mb} (hs : a.eval s = .slice A n c) (hO : OwnR mF 4 39 w base A n c L) (hx : a.eval x = .slice (some ⟨B, 0, none⟩) 1 1)
    (hi : ∀ j u, (mF i)[j]? = some u → w.cell? ⟨B, j, none⟩ = some u) (hb : n ≤ 100000) (hbase : base ≤ w.heap.size)
    (h : ∀ A' c' w', OwnR mF 4 39 w' base A' (n + 1) c' (L ++ [i]) → Below base w w' → w.grownBy w' (Value.slice A n c).ownBlock → K (a.put o.dst (.slice A' (n + 1) c')) w') : if Region.wanted o (yielded ops a.tmps) = true then Oper.wp Tryz.prog o a w K Q else E := by
  have hw : Region.wanted o (yielded ops a.tmps) = true := by simp [Region.wanted, hg]
  rw [if_pos hw]
  obtain ⟨i0, hi0, hz0, hz1, hz2⟩ := info_parts info_mF
  refine _root_.Go.wp_append_own (w := w) s x 24 hop base 39 i0 _ 4 48 Tryz.underlying24 hi0 hz0 hz1 hz2 rfl (by decide) (.slice A n c) n (fl mF L) hs hO.own ⟨B, 0, none⟩ 1 1 (mF i) hx rfl (fun j u hu => by
    rcases Nat.eq_zero_or_pos j with rfl | hj
    · simpa [Addr.add] using hi 0 u hu
    · have : j ≠ 0 := by omega
      simpa [Addr.add, this] using hi j u hu) (by rw [← fl_one mF]; exact fl_cell mF_one _) (by unfold maxLen; omega) (by omega) hbase ?_
  intro v' w' h1 h2 _
  rw [← fl_one mF, ← fl_app] at h1
  obtain ⟨A', c', rfl, hle, _, hnz⟩ := own_formG h1
  refine h A' c' w' ⟨by rw [List.length_append, hO.len]; rfl, hle, hnz, h1⟩ (grown_below h2 (fun k hk => (hO.own.lt k hk).1) hbase) h2
theorem neIM : 3 ≠ 39 := by decide
theorem three_at {w : World} {base c g o : Nat} {a b d : Int} (h : OwnR iF 1 3 w base (some ⟨g, o, none⟩) 3 c [a, b, d]) :
    w.cell? ⟨g, o, none⟩ = some (.int .i64 a) ∧ w.cell? ⟨g, o + 1, none⟩ = some (.int .i64 b) ∧ w.cell? ⟨g, o + 2, none⟩ = some (.int .i64 d) := by
  obtain ⟨g1, o1, hA, x0, x1, x2⟩ := three_cellsN h
  cases hA
  exact ⟨x0, x1, x2⟩

def MtRet (w : World) (s : ByteArray) (p : Int) (r : Ending) (w' : World) : Prop :=
  ∃ A n c L p', r = .returned (.tuple #[.slice A n c, .int .i64 p', .int .i64 (msE s p)]) ∧ OwnR mF 4 39 w' w.heap.size A n c L ∧ (∀ x ∈ L, OwnR aF 2 93 w' w.heap.size x.A x.k x.c x.l) ∧ Below w.heap.size w w' ∧ (msE s p = 0 → p' = msN s p ∧ L.map Mb.v = msL s p)
structure MtI (w wr : World) (s : ByteArray) (q : Int) (m k : Nat) (A : Option Addr) (c : Nat) (L : List Mb) (pk : Int) : Prop where
  le : k ≤ m
  own : OwnR mF 4 39 wr w.heap.size A k c L
  atr : ∀ x ∈ L, OwnR aF 2 93 wr w.heap.size x.A x.k x.c x.l
  bel : Below w.heap.size w wr
  rng : 0 ≤ pk ∧ pk ≤ s.size
  err : lkE (tmC s) (tmN s) (tmE s) q k = 0
  pos : pk = lkN (tmC s) (tmN s) (tmE s) q k
  val : L.map Mb.v = lkL (tmC s) (tmN s) (tmE s) q k
theorem MtI.start {w : World} {s : ByteArray} {q : Int} {m : Nat} (hq : 0 ≤ q ∧ q ≤ s.size) : MtI w w s q m 0 none 0 [] q :=
  ⟨Nat.zero_le _, OwnR.nil _ _ _ _ _, fun x hx => (by cases hx), Below.refl _ _, hq, rfl, rfl, rfl⟩
theorem MtRet.no {w w' : World} {s : ByteArray} {p pk e : Int} (h : msE s p = e) (he : ¬ e = 0) (hb : Below w.heap.size w w') : MtRet w s p (.returned (.tuple #[.slice none 0 0, .int .i64 pk, .int .i64 e])) w' :=
  ⟨none, 0, 0, [], pk, by rw [h], OwnR.nil _ _ _ _ _, fun x hx => (by cases hx), hb, fun h0 => absurd (h.symm.trans h0) he⟩
theorem MtI.done {w wr : World} {s : ByteArray} {p : Int} {m : Nat} {A : Option Addr} {c : Nat} {L : List Mb} {pk : Int} (I : MtI w wr s (p + 2) m m A c L pk) (hc : cuE s p 64 = 0) (hm : (unsV s p 2).toNat = m) : MtRet w s p (.returned (.tuple #[.slice A m c, .int .i64 pk, .int .i64 0])) wr := by
  have hE : msE s p = 0 := by unfold msE; rw [if_pos hc, hm]; exact I.err
  exact ⟨A, m, c, L, pk, by rw [hE], I.own, I.atr, I.bel, fun _ => ⟨by rw [I.pos]; unfold msN; rw [hm], by rw [I.val]; unfold msL; rw [hm]⟩⟩
theorem MtI.cut {w wr w' : World} {s : ByteArray} {p e : Int} {m k : Nat} {A : Option Addr} {c : Nat} {L : List Mb} {pk p' : Int} (I : MtI w wr s (p + 2) m k A c L pk) (hc : cuE s p 64 = 0) (hm : (unsV s p 2).toNat = m) (hlt : k < m) (h : tmE s pk = e) (he : ¬ e = 0) (hb : Below w.heap.size w w') : MtRet w s p (.returned (.tuple #[.slice none 0 0, .int .i64 p', .int .i64 e])) w' := by
  have e1 : lkE (tmC s) (tmN s) (tmE s) (p + 2) (k + 1) = e := by rw [(lk_ok I.err).2.2, ← I.pos]; exact h
  have e2 : lkE (tmC s) (tmN s) (tmE s) (p + 2) m = e := (lk_stay (by rw [e1]; exact he) m hlt).trans e1
  exact MtRet.no (by unfold msE; rw [if_pos hc, hm, e2]) he hb
theorem MtI.step {w wr w' : World} {s : ByteArray} {q : Int} {m k : Nat} {A A' : Option Addr} {c c' : Nat} {L : List Mb} {pk p' : Int} {x : Mb} (I : MtI w wr s q m k A c L pk) (hlt : k < m) (h : tmE s pk = 0) (hp : p' = tmN s pk) (hx : x.v = tmC s pk) (hO : OwnR mF 4 39 w' w.heap.size A' (k + 1) c' (L ++ [x])) (hX : ∀ y ∈ L ++ [x], OwnR aF 2 93 w' w.heap.size y.A y.k y.c y.l) (hb : Below w.heap.size w w') :
    MtI w w' s q m (k + 1) A' c' (L ++ [x]) p' := by
  obtain ⟨l1, l2, l3⟩ := lk_ok I.err
  have hr := tm_ok I.rng.1 I.rng.2 h
  have hr' := I.rng
  refine ⟨by omega, hO, hX, hb, by omega, by rw [l3, ← I.pos]; exact h, by rw [l2, ← I.pos]; exact hp, by rw [l1, ← I.pos, ← I.val, List.map_append, ← hx]; rfl⟩

set_option maxRecDepth 100000 in
set_option maxHeartbeats 4000000 in
theorem rmembers_any (s : ByteArray) (p : Int) (hs : s.size ≤ 2000000) (hp : 0 ≤ p ∧ p ≤ s.size) (w : World) :
    Calls Tryz.prog 38 #[.string s, .int .i64 p] w (MtRet w s p) := by
  have hC := rcount_any s p 64 hs hp (by omega) w
  unfold cuR at hC
  by_cases hc : cuE s p 64 = 0
  · obtain ⟨hc1, hc2, hc3, hc4⟩ := cu_0 hc
    rw [hc, if_pos rfl, if_pos rfl] at hC
    have hu := uns2_bd s p
    obtain ⟨m, hm⟩ : ∃ m : Nat, unsV s p 2 = (m : Int) := ⟨(unsV s p 2).toNat, by omega⟩
    rw [hm] at hC
    have hm16 : m ≤ 64 := by omega
    have HM := Lib.hid (show (unsV s p 2).toNat = m by omega)
    have HC := Lib.hid hc
    clear hc hm hc1 hc2 hu
    go_enter Tryz.func38, Tryz.ntmps38
    go_wp2_with (go_at_call 37; refine (hC).mono ?_; rintro e w' ⟨rfl, rfl⟩)
    go_loopw [1, 9, 10] (fun at' v ctr wr => ∃ (k : Nat) (A : Option Addr) (c : Nat) (L : List Mb) (pk : Int), at' = .int .i64 pk ∧ v = .slice A k c ∧ ctr = .int .i64 k ∧ MtI w wr s (p + 2) m k A c L pk) (fun at' v ctr _ => m - (intOf ctr).toNat)
    case atStart => exact ⟨0, none, 0, [], p + 2, rfl, rfl, rfl, MtI.start ⟨by omega, by omega⟩⟩
    case round =>
      obtain ⟨k, A, c, L, pk, rfl, rfl, rfl, I⟩ := hrel
      have hle := I.le
      have II := Lib.hid I
      obtain ⟨hp0, hp1⟩ := I.rng
      have hsz := I.bel.size
      clear I
      by_cases hkm : k < m
      · by_cases h3 : unsE s pk 2 = 0 ∧ unsE s (pk + 2) 2 = 0 ∧ unsE s (pk + 4) 2 = 0
        · have H1 := Lib.hid (fun W => rthree_ok s pk hs ⟨hp0, hp1⟩ h3 W)
          have hr6 := un_0 ok2 h3.2.2
          have hp6 : 0 ≤ pk + 6 ∧ pk + 6 ≤ s.size := by omega
          by_cases ha : asE s (pk + 6) = 0
          · have H2 := Lib.hid (fun W => rat_ok s (pk + 6) hs hp6 ha W)
            have HT := Lib.hid (show tmE s pk = 0 by unfold tmE; rw [if_pos h3]; exact ha)
            obtain ⟨v1, hv1⟩ : ∃ v, unsV s pk 2 = v := ⟨_, rfl⟩
            obtain ⟨v2, hv2⟩ : ∃ v, unsV s (pk + 2) 2 = v := ⟨_, rfl⟩
            obtain ⟨v3, hv3⟩ : ∃ v, unsV s (pk + 4) 2 = v := ⟨_, rfl⟩
            obtain ⟨q4, hq4⟩ : ∃ q, asN s (pk + 6) = q := ⟨_, rfl⟩
            obtain ⟨L4, hL4⟩ : ∃ q, asL s (pk + 6) = q := ⟨_, rfl⟩
            rw [hv1, hv2, hv3] at H1
            rw [hq4, hL4] at H2
            have HV := Lib.hid (fun A4 n4 c4 => (show (⟨v1, v2, v3, A4, n4, c4, L4⟩ : Mb).v = tmC s pk by unfold tmC Mb.v; rw [hv1, hv2, hv3, hL4]))
            have HN := Lib.hid (show q4 = tmN s pk from hq4.symm)
            clear hv1 hv2 hv3 hq4 hL4 ha h3
            go_wp2_with (first
              | (go_at_call 36; refine (H1.out _).mono ?_; rintro r w1 ⟨A1, c1, rfl, hO1, hb1⟩; have HO1 := Lib.hid hO1; have HB1 := Lib.hid hb1; have hsz1 := hb1.size; clear hO1 hb1)
              | (go_at_call 39; refine (H2.out _).mono ?_; rintro r w2 ⟨A4, n4, c4, rfl, hO4, hb2⟩; have HO4 := Lib.hid hO4; have HB2 := Lib.hid hb2; have hsz2 := hb2.size; replace HO1 := Lib.hid (HO1.out.below hb2); obtain ⟨g, o, rfl, x0, x1, x2⟩ := three_cellsN HO1.out; clear hO4 hb2))
            have HOWN := Lib.hid (show OwnR mF 4 39 w2.drew w.heap.size A k c L from (II.out.own.below HB1.out).below HB2.out.drew)
            have HO1D := Lib.hid (HO1.out.below (Below.refl _ w2).drew)
            refine regN_start (N := 14) (S := (fun W : World => W.cell? ⟨g, o, none⟩ = some (.int .i64 v1) ∧ W.cell? ⟨g, o + 1, none⟩ = some (.int .i64 v2) ∧ W.cell? ⟨g, o + 2, none⟩ = some (.int .i64 v3))) (by kernel_rfl) ?_
            change wpAnyN _ _ _ _ _ _ _ #[false, false, false, false, false, false, false, false, false, false, false, false, false, false, false] _ (World.drew _)
            have hS0 := (show (fun W : World => W.cell? ⟨g, o, none⟩ = some (.int .i64 v1) ∧ W.cell? ⟨g, o + 1, none⟩ = some (.int .i64 v2) ∧ W.cell? ⟨g, o + 2, none⟩ = some (.int .i64 v3)) w2.drew from ⟨x0, x1, x2⟩)
            refine regN_take (i := 0) (d := (some 55)) (v := ?v14x1) (l2 := #[true, false, false, false, false, false, false, false, false, false, false, false, false, false, false]) rfl rfl rfl (by kernel_rfl) (by kernel_rfl) (by kernel_rfl) (by kernel_rfl) (fun _ _ _ h => h) (by rfl) ?hv14x1 hS0 ?h14x1
            case hv14x1 => intro u hSu; clear hSu; go_simp; (try with_reducible rfl)
            (try simp only [Act.put, List.setIfInBounds_toArray, List.set_cons_zero, List.set_cons_succ])
            refine regN_take (i := 1) (d := (some 56)) (v := ?v14x2) (l2 := #[true, true, false, false, false, false, false, false, false, false, false, false, false, false, false]) rfl rfl rfl (by kernel_rfl) (by kernel_rfl) (by kernel_rfl) (by kernel_rfl) (fun _ _ _ h => h) (by rfl) ?hv14x2 hS0 ?h14x2
            case hv14x2 => intro u hSu; clear hSu; go_simp; (try with_reducible rfl)
            (try simp only [Act.put, List.setIfInBounds_toArray, List.set_cons_zero, List.set_cons_succ])
            refine regN_take (i := 2) (d := (some 57)) (v := ?v14x3) (l2 := #[true, true, true, false, false, false, false, false, false, false, false, false, false, false, false]) rfl rfl rfl (by kernel_rfl) (by kernel_rfl) (by kernel_rfl) (by kernel_rfl) (fun _ _ _ h => h) (by rfl) ?hv14x3 hS0 ?h14x3
            case hv14x3 => intro u hSu; clear hSu; go_simp; (try with_reducible rfl)
            (try simp only [Act.put, List.setIfInBounds_toArray, List.set_cons_zero, List.set_cons_succ])
            refine regN_take (i := 3) (d := (some 58)) (v := ?v14x4) (l2 := #[true, true, true, true, false, false, false, false, false, false, false, false, false, false, false]) rfl rfl rfl (by kernel_rfl) (by kernel_rfl) (by kernel_rfl) (by kernel_rfl) (fun _ _ _ h => h) (by rfl) ?hv14x4 hS0 ?h14x4
            case hv14x4 => intro u hSu; (try dsimp only at hSu); (try go_split_ands); go_simp; (try with_reducible rfl)
            (try simp only [Act.put, List.setIfInBounds_toArray, List.set_cons_zero, List.set_cons_succ])
            refine regN_take (i := 4) (d := (some 59)) (v := ?v14x5) (l2 := #[true, true, true, true, true, false, false, false, false, false, false, false, false, false, false]) rfl rfl rfl (by kernel_rfl) (by kernel_rfl) (by kernel_rfl) (by kernel_rfl) (fun _ _ _ h => h) (by rfl) ?hv14x5 hS0 ?h14x5
            case hv14x5 => intro u hSu; clear hSu; go_simp; (try with_reducible rfl)
            (try simp only [Act.put, List.setIfInBounds_toArray, List.set_cons_zero, List.set_cons_succ])
            refine regN_take (i := 5) (d := (some 60)) (v := ?v14x6) (l2 := #[true, true, true, true, true, true, false, false, false, false, false, false, false, false, false]) rfl rfl rfl (by kernel_rfl) (by kernel_rfl) (by kernel_rfl) (by kernel_rfl) (fun _ _ _ h => h) (by rfl) ?hv14x6 hS0 ?h14x6
            case hv14x6 => intro u hSu; clear hSu; go_simp; (try with_reducible rfl)
            (try simp only [Act.put, List.setIfInBounds_toArray, List.set_cons_zero, List.set_cons_succ])
            refine regN_take (i := 6) (d := (some 61)) (v := ?v14x7) (l2 := #[true, true, true, true, true, true, true, false, false, false, false, false, false, false, false]) rfl rfl rfl (by kernel_rfl) (by kernel_rfl) (by kernel_rfl) (by kernel_rfl) (fun _ _ _ h => h) (by rfl) ?hv14x7 hS0 ?h14x7
            case hv14x7 => intro u hSu; (try dsimp only at hSu); (try go_split_ands); go_simp; (try with_reducible rfl)
            (try simp only [Act.put, List.setIfInBounds_toArray, List.set_cons_zero, List.set_cons_succ])
            refine regN_take (i := 7) (d := (some 62)) (v := ?v14x8) (l2 := #[true, true, true, true, true, true, true, true, false, false, false, false, false, false, false]) rfl rfl rfl (by kernel_rfl) (by kernel_rfl) (by kernel_rfl) (by kernel_rfl) (fun _ _ _ h => h) (by rfl) ?hv14x8 hS0 ?h14x8
            case hv14x8 => intro u hSu; clear hSu; go_simp; (try with_reducible rfl)
            (try simp only [Act.put, List.setIfInBounds_toArray, List.set_cons_zero, List.set_cons_succ])
            refine regN_take (i := 8) (d := (some 63)) (v := ?v14x9) (l2 := #[true, true, true, true, true, true, true, true, true, false, false, false, false, false, false]) rfl rfl rfl (by kernel_rfl) (by kernel_rfl) (by kernel_rfl) (by kernel_rfl) (fun _ _ _ h => h) (by rfl) ?hv14x9 hS0 ?h14x9
            case hv14x9 => intro u hSu; clear hSu; go_simp; (try with_reducible rfl)
            (try simp only [Act.put, List.setIfInBounds_toArray, List.set_cons_zero, List.set_cons_succ])
            refine regN_take (i := 9) (d := (some 64)) (v := ?v14x10) (l2 := #[true, true, true, true, true, true, true, true, true, true, false, false, false, false, false]) rfl rfl rfl (by kernel_rfl) (by kernel_rfl) (by kernel_rfl) (by kernel_rfl) (fun _ _ _ h => h) (by rfl) ?hv14x10 hS0 ?h14x10
            case hv14x10 => intro u hSu; (try dsimp only at hSu); (try go_split_ands); go_simp; (try with_reducible rfl)
            (try simp only [Act.put, List.setIfInBounds_toArray, List.set_cons_zero, List.set_cons_succ])
            refine regN_take (i := 10) (d := (some 65)) (v := ?v14x11) (l2 := #[true, true, true, true, true, true, true, true, true, true, true, false, false, false, false]) rfl rfl rfl (by kernel_rfl) (by kernel_rfl) (by kernel_rfl) (by kernel_rfl) (fun _ _ _ h => h) (by rfl) ?hv14x11 hS0 ?h14x11
            case hv14x11 => intro u hSu; clear hSu; go_simp; (try with_reducible rfl)
            (try simp only [Act.put, List.setIfInBounds_toArray, List.set_cons_zero, List.set_cons_succ])
            refine regN_take (i := 11) (d := (some 66)) (v := ?v14x12) (l2 := #[true, true, true, true, true, true, true, true, true, true, true, true, false, false, false]) rfl rfl rfl (by kernel_rfl) (by kernel_rfl) (by kernel_rfl) (by kernel_rfl) (fun _ _ _ h => h) (by rfl) ?hv14x12 hS0 ?h14x12
            case hv14x12 => intro u hSu; clear hSu; go_simp; (try with_reducible rfl)
            (try simp only [Act.put, List.setIfInBounds_toArray, List.set_cons_zero, List.set_cons_succ])
            refine regN_ready (rs := [12]) (by kernel_rfl) (by simp) ?_
            refine (AllN.cons (i := 12) (l2 := #[true, true, true, true, true, true, true, true, true, true, true, true, true, false, false]) rfl rfl (fun K hK => ?_) AllN.nil)
            go_simp
            have hS1 : ((fun W : World => W.cell? ⟨g, o, none⟩ = some (.int .i64 v1) ∧ W.cell? ⟨g, o + 1, none⟩ = some (.int .i64 v2) ∧ W.cell? ⟨g, o + 2, none⟩ = some (.int .i64 v3)) : World → Prop) _ := (show (fun W : World => W.cell? ⟨g, o, none⟩ = some (.int .i64 v1) ∧ W.cell? ⟨g, o + 1, none⟩ = some (.int .i64 v2) ∧ W.cell? ⟨g, o + 2, none⟩ = some (.int .i64 v3)) (w2.drew.alloc (.cells #[.int .i64 v1, .int .i64 v2, .int .i64 v3, .slice A4 n4 c4] 39)) from three_at (HO1D.out.below (below_al (Below.refl _ w2.drew) _)))
            refine hK _ _ (fun _ => hS1) ?_
            clear hK K
            (try simp only [Act.put, List.setIfInBounds_toArray, List.set_cons_zero, List.set_cons_succ])
            refine regN_ready (rs := [13]) (by kernel_rfl) (by simp) ?_
            refine (AllN.cons (i := 13) (l2 := #[true, true, true, true, true, true, true, true, true, true, true, true, true, true, false]) rfl rfl (fun K hK => ?_) AllN.nil)
            refine step_append_mF (by rfl) _ _ (by rfl) (by rfl) (HOWN.out.below (below_al (Below.refl _ w2.drew) _)) (by rfl) (newM ⟨v1, v2, v3, A4, n4, c4, L4⟩) (by omega) (by simp; omega) ?_
            intro A2 c2' w9 hO9 hb9 hg9
            have hS2 : ((fun W : World => W.cell? ⟨g, o, none⟩ = some (.int .i64 v1) ∧ W.cell? ⟨g, o + 1, none⟩ = some (.int .i64 v2) ∧ W.cell? ⟨g, o + 2, none⟩ = some (.int .i64 v3)) : World → Prop) _ := (show (fun W : World => W.cell? ⟨g, o, none⟩ = some (.int .i64 v1) ∧ W.cell? ⟨g, o + 1, none⟩ = some (.int .i64 v2) ∧ W.cell? ⟨g, o + 2, none⟩ = some (.int .i64 v3)) w9 from three_at ((HO1D.out.below (below_al (Below.refl _ w2.drew) _)).grown (HOWN.out.below (below_al (Below.refl _ w2.drew) _)) neIM hg9))
            refine hK _ _ (fun _ => hS2) ?_
            clear hK K
            (try simp only [Act.put, List.setIfInBounds_toArray, List.set_cons_zero, List.set_cons_succ])
            refine regN_ready (rs := [14]) (by kernel_rfl) (by simp) ?_
            refine (AllN.cons (i := 14) (l2 := #[true, true, true, true, true, true, true, true, true, true, true, true, true, true, true]) rfl rfl (fun K hK => ?_) AllN.nil)
            go_simp
            refine hK _ _ (fun h => absurd rfl h) ?_
            clear hK K
            (try simp only [Act.put, List.setIfInBounds_toArray, List.set_cons_zero, List.set_cons_succ])
            refine regN_done (by kernel_rfl) ?_ _
            have hX : ∀ y ∈ L ++ [(⟨v1, v2, v3, A4, n4, c4, L4⟩ : Mb)], OwnR aF 2 93 w9 w.heap.size y.A y.k y.c y.l := by
              intro y hy
              have kk := HOWN.out.below (below_al (Below.refl _ w2.drew) (.cells #[.int .i64 v1, .int .i64 v2, .int .i64 v3, .slice A4 n4 c4] 39))
              rcases List.mem_append.1 hy with h | h
              · exact ((((II.out.atr y h).below HB1.out).below HB2.out.drew).below (below_al (Below.refl _ w2.drew) _)).grown kk neAM hg9
              · obtain rfl := List.mem_singleton.1 h
                exact (((HO4.out.more (by omega)).below (Below.refl _ w2).drew).below (below_al (Below.refl _ w2.drew) _)).grown kk neAM hg9
            have HX := Lib.hid hX
            clear hX
            go_wp2
            go_roundw
            case rel => exact ⟨k + 1, A2, c2', _, q4, rfl, rfl, by go_num, MtI.step II.out hkm HT.out HN.out (HV.out _ _ _) hO9 HX.out ((below_al (show Below w.heap.size w w2.drew from (below_on (below_on II.out.bel HB1.out) HB2.out).drew) _).trans hb9)⟩
            case measure => simp [intOf]; omega
          · obtain ⟨e, he⟩ : ∃ e, asE s (pk + 6) = e := ⟨_, rfl⟩
            have H2 := Lib.hid (fun W => rat_no s (pk + 6) e hs hp6 he W)
            rw [he] at ha
            have HA := Lib.hid ha
            have hne : (e != 0) = true := by simpa using ha
            have HT := Lib.hid (show tmE s pk = e by unfold tmE; rw [if_pos h3]; exact he)
            clear he h3 ha
            go_wp2_with (first
              | (go_at_call 36; refine (H1.out _).mono ?_; rintro r w1 ⟨A1, c1, rfl, hO1, hb1⟩; have HB1 := Lib.hid hb1; have hsz1 := hb1.size; clear hO1 hb1)
              | (go_at_call 39; refine (H2.out _).mono ?_; rintro r w2 ⟨A4, n4, c4, p4, rfl, hb2⟩; have HB2 := Lib.hid hb2; clear hb2))
            go_ret3
            exact MtI.cut II.out HC.out HM.out hkm HT.out HA.out (below_on (below_on II.out.bel HB1.out) HB2.out)
        · have H1 := Lib.hid (fun W => rthree_no s pk hs ⟨hp0, hp1⟩ h3 W)
          have HT := Lib.hid (show tmE s pk = 3 by unfold tmE; rw [if_neg h3])
          clear h3
          go_wp2_with (go_at_call 36; refine (H1.out _).mono ?_; rintro r w1 ⟨A1, n1, c1, p1, rfl, hb1⟩; have HB1 := Lib.hid hb1; clear hb1)
          go_ret3
          exact MtI.cut II.out HC.out HM.out hkm HT.out (by decide) (below_on II.out.bel HB1.out)
      · obtain rfl : k = m := by omega
        go_wp2
        go_ret3
        exact MtI.done II.out HC.out HM.out
  · rw [if_neg hc, if_neg hc] at hC
    have HE := Lib.hid (show msE s p = cuE s p 64 by unfold msE; rw [if_neg hc])
    have HB := Lib.hid hc
    have hne : (cuE s p 64 != 0) = true := by simpa using hc
    generalize cuE s p 64 = e at hC HE HB hne
    clear hc
    go_enter Tryz.func38, Tryz.ntmps38
    go_wp2_with (go_at_call 37; refine (hC).mono ?_; rintro e w' ⟨rfl, rfl⟩)
    go_ret3
    exact MtRet.no HE.out HB.out (Below.refl _ _)

end Go.Proofs.YthfegbhbokhlkaaGreatDoor

/- Qd -/
/- Layer 11: the reference's Decode: the calls, prepared. -/
namespace Go.Proofs.YthfegbhbokhlkaaGreatDoor
open Go.ChangeShapes Go.WideShapes Go.ChangeAt Go.RowKit Go.PlainAid
set_option linter.unusedSimpArgs false
set_option linter.unusedVariables false

theorem rdec6_any (s : ByteArray) (p : Int) (hs : s.size ≤ 2000000) (w : World) : Calls Tryz.prog 35 #[.string s, .int .i64 p] w (DeRet w s p) := by
  by_cases hp : 0 ≤ p ∧ p ≤ s.size
  · by_cases h2 : unsE s p 2 = 0
    · exact rdec_in s p hs hp h2 w
    · exact rdec_cut s p hs hp h2 w
  · exact rdec_out s p hp w
theorem rms_ok (s : ByteArray) (p : Int) (hs : s.size ≤ 2000000) (hp : 0 ≤ p ∧ p ≤ s.size) (he : msE s p = 0) (w : World) :
    Calls Tryz.prog 38 #[.string s, .int .i64 p] w fun r w' => ∃ A n c L, r = .returned (.tuple #[.slice A n c, .int .i64 (msN s p), .int .i64 0]) ∧ OwnR mF 4 39 w' w.heap.size A n c L ∧ (∀ x ∈ L, OwnR aF 2 93 w' w.heap.size x.A x.k x.c x.l) ∧ L.map Mb.v = msL s p ∧ Below w.heap.size w w' := by
  refine (rmembers_any s p hs hp w).mono ?_
  rintro r w' ⟨A, n, c, L, p', rfl, hO, hX, hb, hv⟩
  obtain ⟨rfl, hl⟩ := hv he
  rw [he]
  exact ⟨A, n, c, L, rfl, hO, hX, hl, hb⟩
theorem rms_no (s : ByteArray) (p e : Int) (hs : s.size ≤ 2000000) (hp : 0 ≤ p ∧ p ≤ s.size) (he : msE s p = e) (w : World) :
    Calls Tryz.prog 38 #[.string s, .int .i64 p] w fun r w' => ∃ A n c p', r = .returned (.tuple #[.slice A n c, .int .i64 p', .int .i64 e]) ∧ Below w.heap.size w w' := by
  refine (rmembers_any s p hs hp w).mono ?_
  rintro r w' ⟨A, n, c, L, p', rfl, hO, hX, hb, hv⟩
  rw [he]
  exact ⟨A, n, c, p', rfl, hb⟩
/-- the interfaces: their numbers -/
theorem ris_ok (s : ByteArray) (p : Int) (m : Nat) (hs : s.size ≤ 2000000) (hp : 0 ≤ p ∧ p ≤ s.size) (hm : m ≤ 60000) (he : lkE (nuC s) nuN (nuE s) p m = 0) (w : World) :
    Calls Tryz.prog 36 #[.string s, .int .i64 p, .int .i64 (m : Int)] w fun r w' => ∃ A n c, r = .returned (.tuple #[.slice A n c, .int .i64 (lkN (nuC s) nuN (nuE s) p m), .int .i64 0]) ∧ OwnR iF 1 3 w' w.heap.size A n c (lkL (nuC s) nuN (nuE s) p m) ∧ Below w.heap.size w w' := by
  refine (rnums_any s p m hs hp hm w).mono ?_
  rintro r w' ⟨A, n, c, L, p', rfl, hO, hb, hv⟩
  obtain ⟨rfl, rfl⟩ := hv he
  rw [he]
  exact ⟨A, n, c, rfl, hO, hb⟩
theorem ris_no (s : ByteArray) (p e : Int) (m : Nat) (hs : s.size ≤ 2000000) (hp : 0 ≤ p ∧ p ≤ s.size) (hm : m ≤ 60000) (he : lkE (nuC s) nuN (nuE s) p m = e) (w : World) :
    Calls Tryz.prog 36 #[.string s, .int .i64 p, .int .i64 (m : Int)] w fun r w' => ∃ A n c p', r = .returned (.tuple #[.slice A n c, .int .i64 p', .int .i64 e]) ∧ Below w.heap.size w w' := by
  refine (rnums_any s p m hs hp hm w).mono ?_
  rintro r w' ⟨A, n, c, L, p', rfl, hO, hb, hv⟩
  rw [he]
  exact ⟨A, n, c, p', rfl, hb⟩
theorem rp_ok (s : ByteArray) (p : Int) (hs : s.size ≤ 2000000) (he : deE s p = 0) (w : World) :
    Calls Tryz.prog 35 #[.string s, .int .i64 p] w fun r w' => ∃ A n c, r = .returned (.tuple #[.slice A n c, .int .i64 (deN s p), .int .i64 0]) ∧ (deL s p).length = n ∧ Pool w' w'.heap.size A (deL s p) ∧ Below w.heap.size w w' := by
  refine (rdec6_any s p hs w).mono ?_
  rintro r w' ⟨A, n, c, rfl, hl, hc, hP, hb⟩
  rw [he]
  exact ⟨A, n, c, rfl, hl, hP, hb⟩
theorem rp_no (s : ByteArray) (p e : Int) (hs : s.size ≤ 2000000) (he : deE s p = e) (w : World) :
    Calls Tryz.prog 35 #[.string s, .int .i64 p] w fun r w' => ∃ A n c p', r = .returned (.tuple #[.slice A n c, .int .i64 p', .int .i64 e]) ∧ Below w.heap.size w w' := by
  refine (rdec6_any s p hs w).mono ?_
  rintro r w' ⟨A, n, c, rfl, hl, hc, hP, hb⟩
  rw [he]
  exact ⟨A, n, c, _, rfl, hb⟩
theorem rc_ok (s : ByteArray) (p q : Int) (hs : s.size ≤ 2000000) (hp : 0 ≤ p ∧ p ≤ s.size) (hq : 0 ≤ q ∧ q ≤ 65535) (he : cuE s p q = 0) (w : World) :
    Calls Tryz.prog 37 #[.string s, .int .i64 p, .int .i64 q] w fun r w' => r = .returned (.tuple #[.int .i64 (unsV s p 2), .int .i64 (p + 2), .int .i64 0]) ∧ w = w' := by
  have h := rcount_any s p q hs hp hq w
  unfold cuR at h
  rwa [he, if_pos rfl, if_pos rfl] at h
theorem rc_no (s : ByteArray) (p q e : Int) (hs : s.size ≤ 2000000) (hp : 0 ≤ p ∧ p ≤ s.size) (hq : 0 ≤ q ∧ q ≤ 65535) (he : cuE s p q = e) (h0 : ¬ e = 0) (w : World) :
    Calls Tryz.prog 37 #[.string s, .int .i64 p, .int .i64 q] w fun r w' => r = .returned (.tuple #[.int .i64 0, .int .i64 p, .int .i64 e]) ∧ w = w' := by
  have h := rcount_any s p q hs hp hq w
  unfold cuR at h
  rwa [he, if_neg h0, if_neg h0] at h
theorem hd_raw (s : ByteArray) : (decide (6 ≤ s.size) && ((s.extract 0 6).toList == hdB.toList)) = Lib.hasPrefix s.data.toList hdB.data.toList := Lib.hasPrefix_raw s hdB
theorem hd_bytes : hdB.toList = [65, 82, 77, 65, 0, 1] := by rw [ByteArray.toList_eq]; rfl

end Go.Proofs.YthfegbhbokhlkaaGreatDoor
