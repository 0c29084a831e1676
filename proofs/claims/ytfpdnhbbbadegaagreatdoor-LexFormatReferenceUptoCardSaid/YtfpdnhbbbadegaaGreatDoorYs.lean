/- Layer 53: Tokenize. -/
import Derived.Test.YtfpdnhbbbadegaaGreatDoorYr
import Derived.ScopeJumps
namespace Go.Proofs.YtfpdnhbbbadegaaGreatDoor
open Go.ChangeShapes Go.WideShapes Go.ChangeAt Go.RowKit Go.PlainAid
set_option linter.unusedSimpArgs false
set_option linter.unusedVariables false

/-- what comes of the tokens so far and the rest's outcome -/
def preT (L : List Tk) (r : List Tk × Int × Int) : List Tk × Int × Int := if r.2.2 = 0 then (L ++ r.1, r.2) else ([], r.2)
theorem pre_end {L : List Tk} {f k a : Nat} {l : List UInt8} (h : l.drop (skL l) = []) : preT L (tkGo (f + 1) k a l) = (L, 0, 0) := by
  rw [tk_succ, if_pos h]; unfold preT; simp
theorem pre_many {L : List Tk} {f a : Nat} {l : List UInt8} (h : l.drop (skL l) ≠ []) : preT L (tkGo (f + 1) 5000 a l) = ([], 0, 5) := by
  rw [tk_succ, if_neg h, if_pos rfl]; rfl
theorem pre_bad {L : List Tk} {f k a : Nat} {l : List UInt8} (h : l.drop (skL l) ≠ []) (hk : k ≠ 5000) (hs : scL (l.drop (skL l)) = none) : preT L (tkGo (f + 1) k a l) = ([], ((a + skL l : Nat) : Int), 70) := by
  rw [tk_succ, if_neg h, if_neg hk, hs]; rfl
theorem pre_tok {L : List Tk} {f k a : Nat} {l : List UInt8} {t : Sc} (h : l.drop (skL l) ≠ []) (hk : k ≠ 5000) (hs : scL (l.drop (skL l)) = some t) :
    preT L (tkGo (f + 1) k a l) = preT (L ++ [⟨t.k, t.s, t.n, ((a + skL l : Nat) : Int)⟩]) (tkGo f (k + 1) (a + skL l + t.z) (l.drop (skL l + t.z))) := by
  rw [tk_succ, if_neg h, if_neg hk, hs]
  simp only
  by_cases h3 : (tkGo f (k + 1) (a + skL l + t.z) (l.drop (skL l + t.z))).2.2 = 0
  · rw [if_pos h3]; unfold preT; rw [if_pos rfl, if_pos h3]
    have := (tk_err f (k + 1) (a + skL l + t.z) (l.drop (skL l + t.z))).1 h3
    simp only [List.append_assoc, List.singleton_append]
    refine Prod.ext rfl (Prod.ext this.symm h3.symm)
  · rw [if_neg h3]; unfold preT; simp only; rw [if_neg h3, if_neg h3]
def TzRet (w : World) (r : List Tk × Int × Int) (e : Ending) (w' : World) : Prop :=
  ∃ A n c, e = .returned (.tuple #[.slice A n c, .int .i64 r.2.1, .int .i64 r.2.2]) ∧ OwnR tF 4 27 w' w.heap.size A n c r.1 ∧ Below w.heap.size w w'
/-- at the label: k tokens, the place a -/
structure TzI (w : World) (l : List UInt8) (R : List Tk × Int × Int) (k a : Nat) (A : Option Addr) (c : Nat) (L : List Tk) (wr : World) : Prop where
  le : a ≤ l.length
  kb : k ≤ 5000
  own : OwnR tF 4 27 wr w.heap.size A k c L
  bl : Below w.heap.size w wr
  ld : Laid wr
  res : preT L (tkGo (l.length + 1 - a) k a (l.drop a)) = R

theorem wp_scope_jumps1 {P : Program} {a : Act} {w : World} {Q : Exit → Act → World → Prop} {c rest : Code} (l : Nat) (J : Act → World → Prop) (μ : Act → World → Nat) (hf : findLabel c l = some (Code.seq Code.skip rest))
    (pass : ∀ a w, J a w → rest.wp P (Exit.jump l (fun a' w' => J a' w' ∧ μ a' w' < μ a w) Q) a w)
    (first : Hid (∀ a w, J a w → rest.wp P (Exit.jump l J Q) a w) → c.wp P (Exit.jump l J Q) a w) : (Code.scope c).wp P Q a w :=
  wp_scope_jumps l J μ hf (first (Lib.hid fun a w h => Code.wp_mono (fun e a' w' q => by
    cases e <;> first | exact q | exact ⟨q.1, q.2.1⟩) (pass a w h))) fun a w h => wp_seq (wp_skip (pass a w h))
def tkJ (w : World) (s : ByteArray) (R : List Tk × Int × Int) (x : Act) (wr : World) : Prop :=
  ∃ (k a : Nat) (A : Option Addr) (c : Nat) (L : List Tk) (u7 u8 u9 u10 u11 u12 u13 u14 u15 u16 u17 u18 u19 u20 u21 u22 u23 u24 u25 u26 u27 u28 u29 u30 u31 u32 u33 u34 u35 u36 u37 u38 u39 u40 u41 : Value), x = { tmps := #[.string s, undef, .slice none 0 0, .int .i64 0, .int .i64 0, .slice A k c, .int .i64 (a : Nat), u7, u8, u9, u10, u11, u12, u13, u14, u15, u16, u17, u18, u19, u20, u21, u22, u23, u24, u25, u26, u27, u28, u29, u30, u31, u32, u33, u34, u35, u36, u37, u38, u39, u40, u41], defers := [] } ∧ TzI w s.data.toList R k a A c L wr
theorem TzI.get {w wr : World} {l : List UInt8} {R : List Tk × Int × Int} {k a : Nat} {A : Option Addr} {c : Nat} {L : List Tk} (I : TzI w l R k a A c L wr) : ∃ f, l.length + 1 - a = f + 1 := ⟨l.length - a, by have := I.le; omega⟩
theorem drop_sk {l : List UInt8} {a b : Nat} (hb : a + skL (l.drop a) = b) : (l.drop a).drop (skL (l.drop a)) = l.drop b := by rw [List.drop_drop, hb]
theorem TzI.fin {w wr : World} {l : List UInt8} {R : List Tk × Int × Int} {k a : Nat} {A : Option Addr} {c : Nat} {L : List Tk} (I : TzI w l R k a A c L wr) (h : l.drop (a + skL (l.drop a)) = []) : TzRet w R (.returned (.tuple #[.slice A k c, .int .i64 0, .int .i64 0])) wr := by
  obtain ⟨f, hf⟩ := I.get
  have := I.res
  rw [hf, pre_end (by rw [drop_sk rfl]; exact h)] at this
  rw [← this]
  exact ⟨A, k, c, rfl, I.own, I.bl⟩
theorem TzI.many {w wr : World} {l : List UInt8} {R : List Tk × Int × Int} {a : Nat} {A : Option Addr} {c : Nat} {L : List Tk} (I : TzI w l R 5000 a A c L wr) (h : l.drop (a + skL (l.drop a)) ≠ []) : TzRet w R (.returned (.tuple #[.slice none 0 0, .int .i64 0, .int .i64 5])) wr := by
  obtain ⟨f, hf⟩ := I.get
  have := I.res
  rw [hf, pre_many (by rw [drop_sk rfl]; exact h)] at this
  rw [← this]
  exact ⟨none, 0, 0, rfl, OwnR.nil _ _ _ _ _, I.bl⟩
theorem TzI.bad {w wr w1 : World} {l : List UInt8} {R : List Tk × Int × Int} {k a b : Nat} {A : Option Addr} {c : Nat} {L : List Tk} (I : TzI w l R k a A c L wr) (hb : a + skL (l.drop a) = b) (h : l.drop b ≠ []) (hk : k ≠ 5000) (hs : scL (l.drop b) = none) (hw : Below w.heap.size w w1) :
    TzRet w R (.returned (.tuple #[.slice none 0 0, .int .i64 (b : Nat), .int .i64 70])) w1 := by
  obtain ⟨f, hf⟩ := I.get
  have := I.res
  rw [hf, pre_bad (by rw [drop_sk hb]; exact h) hk (by rw [drop_sk hb]; exact hs), hb] at this
  rw [← this]
  exact ⟨none, 0, 0, rfl, OwnR.nil _ _ _ _ _, hw⟩
theorem TzI.step {w wr w1 : World} {l : List UInt8} {R : List Tk × Int × Int} {k a b : Nat} {A A' : Option Addr} {c c' : Nat} {L : List Tk} {t : Sc} (I : TzI w l R k a A c L wr) (hb : a + skL (l.drop a) = b) (h : b < l.length) (hk : k ≠ 5000) (hs : scL (l.drop b) = some t)
    (ho : OwnR tF 4 27 w1 w.heap.size A' (k + 1) c' (L ++ [⟨t.k, t.s, t.n, (b : Nat)⟩])) (hw : Below w.heap.size w w1) (hl : Laid w1) : TzI w l R (k + 1) (b + t.z) A' c' (L ++ [⟨t.k, t.s, t.n, (b : Nat)⟩]) w1 := by
  have hz := sc_bd hs
  rw [List.length_drop] at hz
  have hne : l.drop b ≠ [] := fun e => by have := congrArg List.length e; simp at this; omega
  have hkb := I.kb
  have hab : a ≤ b := by omega
  obtain ⟨f, hf⟩ := I.get
  refine ⟨by omega, by omega, ho, hw, hl, ?_⟩
  have := I.res
  rw [hf, pre_tok (by rw [drop_sk hb]; exact hne) hk (by rw [drop_sk hb]; exact hs), hb] at this
  rw [← this, List.drop_drop, show a + (skL (l.drop a) + t.z) = b + t.z by omega]
  rw [tk_fuel (l.length + 1 - (b + t.z)) f (k + 1) _ _ (by rw [List.length_drop]; omega) (by rw [List.length_drop]; omega)]
theorem newT {w : World} (x : Tk) : ∀ j u, (tF x)[j]? = some u → (w.alloc (.cells #[.int .i64 x.k, .string (bsB x.s), .int .i64 x.n, .int .i64 x.a] 27)).cell? ⟨w.heap.size, j, none⟩ = some u := by
  intro j u hu
  have h := World.alloc_heap_new w (.cells #[.int .i64 x.k, .string (bsB x.s), .int .i64 x.n, .int .i64 x.a] 27)
  generalize w.alloc (.cells #[.int .i64 x.k, .string (bsB x.s), .int .i64 x.n, .int .i64 x.a] 27) = W at h ⊢
  rcases j with _ | _ | _ | _ | j <;> simp [tF] at hu <;> subst hu <;> simp [World.cell?, h]

set_option maxRecDepth 100000 in
set_option maxHeartbeats 4000000 in
theorem tokenize_any (s : ByteArray) (hs : s.size ≤ 9223372036854775807) (w : World) (hL : Laid w) : Calls Tryz.prog 5 #[.string s] w (TzRet w (tkL s.data.toList)) := by
  by_cases hb : 20000 < s.size
  · have hN : tkL s.data.toList = ([], 0, 8) := by unfold tkL; rw [if_pos (by rw [len_data]; exact hb)]
    have HR := Lib.hid (show TzRet w (tkL s.data.toList) (.returned (.tuple #[.slice none 0 0, .int .i64 0, .int .i64 8])) w by rw [hN]; exact ⟨none, 0, 0, rfl, OwnR.nil _ _ _ _ _, Below.refl _ _⟩)
    have hb' : (20000 : Int) < (s.size : Int) := by omega
    clear hb hN hL
    go_enter Tryz.func5, Tryz.ntmps5
    go_wp2
    go_step3
    go_wp2
    (try rw [Exit.noGoto_ret])
    go_ret3
    exact HR.out
  · have hb' : ¬ (20000 : Int) < (s.size : Int) := by omega
    have hs : s.size ≤ 5000000 := by omega
    obtain ⟨R, hR⟩ : ∃ R, tkL s.data.toList = R := ⟨_, rfl⟩
    have HS := Lib.hid (show TzI w s.data.toList R 0 0 none 0 [] w by
      refine ⟨Nat.zero_le _, Nat.zero_le _, OwnR.nil _ _ _ _ _, Below.refl _ _, hL, ?_⟩
      rw [← hR]; unfold tkL
      rw [if_neg (by rw [len_data]; exact hb), Nat.sub_zero, List.drop_zero]
      unfold preT
      split
      · rfl
      · rename_i h; exact Prod.ext ((tk_err _ _ _ _).2.1 h).symm rfl)
    rw [hR]
    have HLW := Lib.hid hL
    clear hb hL hR
    go_enter Tryz.func5, Tryz.ntmps5
    go_wp2
    refine wp_scope_jumps1 0 (tkJ w s R) (fun a _ => s.size - (intOf (a.tmps.getD 6 undef)).toNat) rfl ?_ ?_
    · rintro x wr ⟨k, a, A, c, L, u7, u8, u9, u10, u11, u12, u13, u14, u15, u16, u17, u18, u19, u20, u21, u22, u23, u24, u25, u26, u27, u28, u29, u30, u31, u32, u33, u34, u35, u36, u37, u38, u39, u40, u41, rfl, I⟩
      have hlen := len_data s
      obtain ⟨b, hb⟩ : ∃ b, a + skL (s.data.toList.drop a) = b := ⟨_, rfl⟩
      have hal := I.le
      have hbl : b ≤ s.size := by have := skL_le (s.data.toList.drop a); rw [List.length_drop] at this; omega
      have hab : a ≤ b := by omega
      have KS := Lib.hid (fun W => (by have h := skip_any s a (by omega) (by omega) W; rw [hb] at h; exact h : Calls Tryz.prog 17 #[.string s, .int .i64 (a : Int)] W fun e w' => e = .returned (.int .i64 (b : Nat)) ∧ W = w'))
      have II := Lib.hid I
      have HBB := Lib.hid hb
      clear I hb
      by_cases h1 : b = s.size
      · have HR := Lib.hid (II.out.fin (by rw [HBB.out]; exact List.drop_eq_nil_of_le (by omega)))
        subst h1
        go_wp2_with (first | (go_at_call 17; refine (KS.out _).mono ?_; rintro e w' ⟨rfl, rfl⟩))
        simp only [Exit.jump]
        go_ret3
        exact HR.out
      · have hne : s.data.toList.drop b ≠ [] := fun e => by have := congrArg List.length e; simp only [List.length_drop, List.length_nil] at this; omega
        have hlt : b < s.size := by omega
        have h1' : ((b : Int) == (s.size : Int)) = false := by rw [beq_eq_false_iff_ne]; omega
        by_cases h2 : k = 5000
        · subst h2
          have HR := Lib.hid (II.out.many (by rw [HBB.out]; exact hne))
          clear hne h1
          go_wp2_with (first | (go_at_call 17; refine (KS.out _).mono ?_; rintro e w' ⟨rfl, rfl⟩))
          simp only [Exit.jump]
          go_ret3
          exact HR.out
        · have h2' : ((k : Int) == 5000) = false := by rw [beq_eq_false_iff_ne]; omega
          obtain ⟨X, hX⟩ : ∃ X, s.extract b s.size = X := ⟨_, rfl⟩
          have hXd : X.data.toList = s.data.toList.drop b := by rw [← hX, extract_drop hbl]
          have hXz : X.size = s.size - b := by rw [← hX, ByteArray.size_extract]; omega
          have HX := Lib.hid hX
          have KC := fun W (hW : Laid W) => (by have h := scan_any X (by omega) (by omega) W hW; rw [hXd] at h; exact h : Calls Tryz.prog 18 #[.string X] W fun e w' => e = .returned (scV (scL (s.data.toList.drop b))) ∧ Below W.heap.size W w')
          rw [← hX] at KC
          clear hXd hXz h1 hX
          cases hsc : scL (s.data.toList.drop b) with
          | none =>
            rw [hsc] at KC
            simp only [scV] at KC
            have KSC := Lib.hid KC
            have HR := Lib.hid (fun w1 => II.out.bad (w1 := w1) HBB.out hne h2 hsc)
            clear hne h2 KC hsc
            go_wp2_with (first | (go_at_call 17; refine (KS.out _).mono ?_; rintro e w' ⟨rfl, rfl⟩) | (go_at_call 18; refine (KSC.out _ II.out.ld).mono ?_; rintro e w1 ⟨rfl, hbw⟩; have HBW := Lib.hid hbw; clear hbw))
            simp only [Exit.jump]
            go_ret3
            exact HR.out _ (below_al (below_on II.out.bl HBW.out) _)
          | some t =>
            rw [hsc] at KC
            simp only [scV] at KC
            have KSC := Lib.hid KC
            have hz := sc_bd hsc
            rw [List.length_drop, hlen] at hz
            have hz0 : ((t.z : Int) == 0) = false := by rw [beq_eq_false_iff_ne]; omega
            have HR := Lib.hid (fun A' c' w1 => II.out.step (w1 := w1) (A' := A') (c' := c') HBB.out (by omega) h2 hsc)
            have hkb := II.out.kb
            have hH := II.out.bl.size
            clear hne h2 KC hsc
            go_upto_region 14 with (first | (go_at_call 17; refine (KS.out _).mono ?_; rintro e w' ⟨rfl, rfl⟩) | (go_at_call 18; refine (KSC.out _ II.out.ld).mono ?_; rintro e w1 ⟨rfl, hbw⟩; have hH1 := hbw.size; have HBW := Lib.hid hbw; clear hbw))
            have hZ := World.alloc_heap_new w1 (.cells #[.int .i64 t.k, .string (bsB t.s), .int .i64 t.n, .int .i64 (b : Nat)] 27)
            have hB2 := below_al (below_on II.out.bl HBW.out) (.cells #[.int .i64 t.k, .string (bsB t.s), .int .i64 t.n, .int .i64 (b : Nat)] 27)
            have hO2 := (II.out.own.below HBW.out).below (below_al (Below.refl _ w1) (.cells #[.int .i64 t.k, .string (bsB t.s), .int .i64 t.n, .int .i64 (b : Nat)] 27))
            have hL2 := (II.out.ld.up HBW.out).up (below_al (Below.refl _ w1) (.cells #[.int .i64 t.k, .string (bsB t.s), .int .i64 t.n, .int .i64 (b : Nat)] 27))
            generalize w1.alloc (.cells #[.int .i64 t.k, .string (bsB t.s), .int .i64 t.n, .int .i64 (b : Nat)] 27) = W2 at hZ hB2 hO2 hL2 ⊢
            generalize w1.heap.size = B at hZ hH1 ⊢
            obtain ⟨⟨z0, z1, z2, z3⟩, fz, yz⟩ := four_cellsT hZ
            have HB2 := Lib.hid hB2
            have HO2 := Lib.hid hO2
            have HL2 := Lib.hid hL2
            clear hZ hB2 hO2 hL2
            go_wp2_with (at_builtin; refine append_tF (by rfl) _ _ (by rfl) (by rfl) (HO2.out.below (below_al (Below.refl _ _) _)) (by rfl) (newT ⟨t.k, t.s, t.n, (b : Nat)⟩) (by omega) (by have := HB2.out.size; simp; omega) ?_; intro A2 c2 w9 hO9 hb9 hg9; have HO9 := Lib.hid hO9; have HB9 := Lib.hid ((below_al HB2.out _).trans hb9); have HG9 := Lib.hid hg9; clear hO9 hb9 hg9)
            go_step3
            rw [show ((b : Int) + (t.z : Int)) = ((b + t.z : Nat) : Int) by omega]
            refine ⟨rfl, ⟨k + 1, b + t.z, A2, c2, _, _, _, _, _, _, _, _, _, _, _, _, _, _, _, _, _, _, _, _, _, _, _, _, _, _, _, _, _, _, _, _, _, _, _, _, rfl, HR.out A2 c2 w9 HO9.out HB9.out (HLW.out.up HB9.out)⟩, ?_⟩
            show s.size - (intOf (.int .i64 ((b + t.z : Nat) : Int))).toNat < s.size - (intOf (.int .i64 (a : Int))).toNat
            simp only [intOf, Int.toNat_natCast]
            omega
    · intro HP
      go_wp2
      apply wp_label
      rename_i K hK
      refine hK _ _ ?_
      exact HP.out _ _ ⟨0, 0, none, 0, [], _, _, _, _, _, _, _, _, _, _, _, _, _, _, _, _, _, _, _, _, _, _, _, _, _, _, _, _, _, _, _, _, _, _, _, rfl, HS.out⟩

end Go.Proofs.YtfpdnhbbbadegaaGreatDoor
