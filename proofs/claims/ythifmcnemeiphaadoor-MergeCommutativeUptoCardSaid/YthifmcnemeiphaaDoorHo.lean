/- Layer 16: the reference's Reach. -/
import Derived.Test.YthifmcnemeiphaaDoorHn
namespace Go.Proofs.YthifmcnemeiphaaDoor
open Go.ChangeShapes Go.WideShapes Go.ChangeAt Go.RowKit Go.PlainAid Go.Maps
set_option linter.unusedSimpArgs false
set_option linter.unusedVariables false

/-- a list of the names that a name reaches, each once -/
def ReachRet (L : List CI) (s : ByteArray) (w : World) (e : Ending) (w' : World) : Prop := ∃ v R, e = .returned v ∧ w'.ownsRow w.heap.size 9 1 v R.length (strs R) ∧ (∀ t, t ∈ R ↔ Nr L s t) ∧ R.Nodup ∧ R.length ≤ 2000000 ∧ Below w.heap.size w w'
theorem own_base {w : World} {base base' e size n : Nat} {v : Value} {xs : List Value} (h : w.ownsRow base e size v n xs) (hb : base' ≤ base) : w.ownsRow base' e size v n xs :=
  ⟨h.1, h.2.imp id (fun ⟨g, cap, cur, e1, e2, e3⟩ => ⟨g, cap, cur, e1, Nat.le_trans hb e2, e3⟩)⟩
theorem own_nilc {w : World} {base e size n c : Nat} {A : Option Addr} {xs : List Value} (h : w.ownsRow base e size (.slice A n c) n xs) : A = none → c = 0 := by
  rintro rfl
  rcases h.2 with ⟨hv, _⟩ | ⟨g, cap, cur, hv, _⟩
  · injection hv
  · cases hv
theorem rch_mu {T M o f i n k : Nat} (h : (T - o) * M + (f - i) ≤ k) (h1 : o + 1 ≤ T) (hn : n ≤ M) (hi : i < f) : (T - (o + 1)) * M + (f + n - (i + 1)) ≤ k - 1 := by
  obtain ⟨u, hu⟩ : ∃ u, T - (o + 1) = u := ⟨_, rfl⟩
  have h2 : T - o = u + 1 := by omega
  rw [h2, Nat.succ_mul] at h
  rw [hu]
  generalize u * M = q at h ⊢
  omega
theorem rch_fl {T o f n : Nat} (h : f ≤ T * (o + 1)) (hn : n ≤ T) : f + n ≤ T * (o + 1 + 1) := by
  rw [Nat.mul_succ T (o + 1)]; omega
structure RchInv (L : List CI) (s : ByteArray) (w : World) (k : Nat) (v f : Value) (i : Nat) (O Fr : List ByteArray) (wr : World) : Prop where
  ile : i ≤ Fr.length
  mu : (2000000 - O.length) * 2000001 + (Fr.length - i) ≤ k
  ol : O.length ≤ 2000000
  fl : Fr.length ≤ 2000000 * (O.length + 1)
  bf : BF L s O Fr i
  own : ∃ g cap, v = .slice (some ⟨g, 0, none⟩) O.length cap ∧ wr.ownsRow w.heap.size 9 1 v O.length (strs O) ∧ f.ownBlock ≠ some g
  fown : wr.ownsRow w.heap.size 9 1 f Fr.length (strs Fr)
  bel : Below w.heap.size w wr
set_option maxRecDepth 100000 in
set_option maxHeartbeats 4000000 in
theorem reach_any (A : Option Addr) (n c : Nat) (L : List CI) (s : ByteArray) (w : World) (hn : L.length = n) (hs : Mid L) (h : CIs w w.heap.size A L) :
    Calls Tryd.prog 60 #[.slice A n c, .string s] w (ReachRet L s w) := by
  have HL := Lib.hid h
  have HN := Lib.hid hn
  have HS := Lib.hid hs
  have hn60 : n ≤ 60 := by rw [← hn]; exact hs.1
  have HFS := Lib.hid (show ∀ x ∈ L, x.fs.length ≤ 2000000 from hs.fs)
  clear h hn hs
  go_enter Tryd.func60, Tryd.ntmps60
  go_upto_region 2 with fail
  have own0 := own_strs_nil (base := w.heap.size) w (Nat.le_refl _)
  have hb0 := below_al (Below.refl w.heap.size w) (.cells #[] 9)
  have hz0 : w.heap.size < (w.alloc (.cells #[] 9)).heap.size := by simp
  generalize w.alloc (.cells #[] 9) = W at own0 hb0 hz0 ⊢
  have HO := Lib.hid own0
  have HB := Lib.hid hb0
  have HLW := Lib.hid (HL.out.up hb0)
  clear own0 hb0
  go_upto_region 3 with (go_at_call 94; (with_reducible refine (next_any _ n _ L _ _ HN.out (by omega) HFS.out HLW.out).mono ?_); rintro e w1 ⟨f, rfl, ho, hb1⟩; have HFO := Lib.hid ho; have HB1 := Lib.hid hb1; clear ho hb1)
  have hnl := HS.out.nx s
  have HST := Lib.hid (show RchInv L s w (2000000 * 2000001 + 2000000) (.slice (some ⟨w.heap.size, 0, none⟩) 0 0) f 0 [] (nx L s) w1 from
    ⟨Nat.zero_le _, by simp only [List.length_nil]; omega, Nat.zero_le _, by simp only [List.length_nil]; omega, BF.start, ⟨w.heap.size, 0, rfl, own_bel HO.out HB1.out, fun e => by have := (HFO.out.lt _ e).1; omega⟩, own_base HFO.out HB.out.size, below_on HB.out HB1.out⟩)
  obtain ⟨fA, fc, rfl, hfc⟩ : ∃ A c, f = .slice A (nx L s).length c ∧ c ≤ maxLen := by
    obtain ⟨A', c', h1, h2, h3⟩ := own_shape HFO.out
    exact ⟨A', c', h1, h3⟩
  clear HO HFO hfc hz0
  go_wp2
  go_loopg [5, 6, 7] (2000000 * 2000001 + 2000000) (fun k v f iv wr => ∃ (i : Nat) (O Fr : List ByteArray), iv = .int .i64 i ∧ RchInv L s w k v f i O Fr wr)
  case atStart => exact ⟨0, [], _, rfl, HST.out⟩
  case round =>
    obtain ⟨i, O, Fr, rfl, I⟩ := hrel
    obtain ⟨g, cap, rfl, hown, hne⟩ := I.own
    obtain ⟨fA, fc, rfl, hfc1, hfc2⟩ := own_shape I.fown
    have hfl : Fr.length ≤ 4000002000000 := by have := I.ol; have := I.fl; omega
    have hol := I.ol
    have hil := I.ile
    have HI := Lib.hid I
    have HOW := Lib.hid hown
    have HNE := Lib.hid hne
    clear I hown hne HST
    unfold maxLen at hfc2
    by_cases hlt : i < Fr.length
    · obtain ⟨q, hq⟩ : ∃ q, fA = some ⟨q, 0, none⟩ := by
        rcases HI.out.fown.2 with ⟨hv, h0⟩ | ⟨q, _, _, hv, _⟩
        · omega
        · exact ⟨q, by injection hv⟩
      subst hq
      have hcj : wr.cell? ⟨q, i, none⟩ = some (.string Fr[i]) := by
        rw [HI.out.fown.cellAt i (by omega)]
        unfold strs
        rw [List.getElem?_map, List.getElem?_eq_getElem hlt]; rfl
      have HSO := Lib.hid (SRow.of_own HOW.out).1
      obtain ⟨t, ht⟩ : ∃ t, Fr[i] = t := ⟨_, rfl⟩
      have HT := Lib.hid ht
      rw [ht] at hcj
      clear ht
      have hof : Value.ownBlock (.slice (some ⟨q, 0, none⟩) Fr.length fc) = some q := rfl
      have hqg : q ≠ g := fun e => HNE.out (by rw [e]; rfl)
      have HQG := Lib.hid hqg
      clear hof hqg
      have hqw : q < wr.heap.size := (HI.out.fown.lt q rfl).2
      cases hh : hasL O t with
      | true =>
        have HH := Lib.hid hh
        clear hh
        go_wp2_with (go_at_call 59; (with_reducible refine (has_any _ O.length _ O _ _ rfl (by omega) HSO.out).mono ?_); rintro e w1 ⟨rfl, hb1⟩; rw [HH.out]; have HB1 := Lib.hid hb1; clear hb1)
        have J := Lib.hid (show RchInv L s w (gk - 1) (.slice (some ⟨g, 0, none⟩) O.length cap) (.slice (some ⟨q, 0, none⟩) Fr.length fc) (i + 1) O Fr w1 from
          ⟨by omega, by have := HI.out.mu; omega, hol, HI.out.fl, HI.out.bf.skip hlt (by rw [HT.out]; exact hasL_iff.1 HH.out), ⟨g, cap, rfl, own_bel HOW.out HB1.out, HNE.out⟩, own_bel HI.out.fown HB1.out, below_on HI.out.bel HB1.out⟩)
        have hmu := HI.out.mu
        go_roundg (gk - 1)
        case measure => omega
        case rel => exact ⟨i + 1, O, Fr, by go_num, J.out⟩
      | false =>
        have HH := Lib.hid hh
        clear hh
        go_upto_region 7 with (go_at_call 59; (with_reducible refine (has_any _ O.length _ O _ _ rfl (by omega) HSO.out).mono ?_); rintro e w1 ⟨rfl, hb1⟩; rw [HH.out]; have HB1 := Lib.hid hb1; clear hb1)
        have hcj1 := (HB1.out.cell (p := ⟨q, i, none⟩) hqw).trans hcj
        have hqw1 : q < w1.heap.size := Nat.lt_of_lt_of_le hqw HB1.out.size
        have hbs := Lib.hid (below_on HI.out.bel HB1.out).size
        clear hcj
        go_upto_region 8 with (at_builtin; refine wpList_append_strsL rfl _ _ rfl w.heap.size O.length 1 1 g cap (w1.heap.size + 1) O [t] (some ⟨w1.heap.size, 0, none⟩) rfl ((own_bel HOW.out HB1.out).alloc _) rfl (srow_new _ _) rfl (fun h => by cases h) (by omega) (by rw [World.size_alloc]; have := hbs.out; omega) ?_; intro g2 cap2 w3 hown hgrow hlie)
        have hb3 : Below w.heap.size w w3 := (below_al (below_on HI.out.bel HB1.out) _).grown hgrow (by rw [World.size_alloc]; have := hbs.out; omega) (fun q hq => by injection hq with hq; rw [← hq]; exact (HOW.out.lt _ rfl).1)
        have hqg2 : q ≠ g2 := by
          rcases hlie with h | h
          · rw [h]; exact HQG.out
          · rw [h, World.size_alloc]; omega
        have hf3 := ((own_bel HI.out.fown HB1.out).alloc (.cells #[.string t] 9)).kept hgrow (Or.inr (fun e => HQG.out (Option.some.inj e)))
        have hcj3 := hf3.cellAt i (by omega)
        have hcj4 : w3.cell? ⟨q, i, none⟩ = some (.string t) := by
          rw [hcj3]
          unfold strs
          rw [List.getElem?_map, List.getElem?_eq_getElem hlt, HT.out]; rfl
        have HLW3 := Lib.hid (HL.out.up hb3)
        have HF3 := Lib.hid hf3
        have HO3 := Lib.hid hown
        have HB3 := Lib.hid hb3
        have HQ2 := Lib.hid hqg2
        clear hcj1 hcj3 hgrow hlie hown hf3 hb3 hqg2 hqw hqw1
        have hnl := HS.out.nx t
        go_upto_region 5 with (first | (go_at_call 94; (with_reducible refine (next_any _ n _ L _ _ HN.out (by omega) HFS.out HLW3.out).mono ?_); rintro e w4 ⟨f2, rfl, ho4, hb4⟩; obtain ⟨A4, c4, rfl, _, _⟩ := own_shape ho4; have HO4 := Lib.hid ho4; have HB4 := Lib.hid hb4; clear ho4 hb4) | (at_builtin; refine wpList_append_strsL rfl _ _ rfl w.heap.size Fr.length (nx L t).length c4 q fc w4.heap.size Fr (nx L t) A4 rfl (own_bel HF3.out HB4.out) rfl (SRow.of_own HO4.out).1 rfl (own_nilc HO4.out) (by omega) (below_on HB3.out HB4.out).size ?_; intro g5 cap5 w5 hown5 hgrow5 hlie5))
        have hqw4 := HO4.out
        have J := Lib.hid (show RchInv L s w (gk - 1) (.slice (some ⟨g2, 0, none⟩) (O.length + 1) cap2) (.slice (some ⟨g5, 0, none⟩) (Fr.length + (nx L t).length) cap5) (i + 1) (O ++ [t]) (Fr ++ nx L t) w5 from by
          have hm := HI.out.mu
          have hbf := HI.out.bf.new hlt (by rw [HT.out]; intro hm; have := hasL_iff.2 hm; rw [HH.out] at this; cases this)
          rw [HT.out] at hbf
          have hl2 := hbf.lenM HS.out
          have hfl2 := HI.out.fl
          rw [List.length_append, List.length_singleton] at hl2
          have hg2w : g2 < w4.heap.size := Nat.lt_of_lt_of_le (HO3.out.lt g2 rfl).2 HB4.out.size
          have hg25 : g2 ≠ g5 := by
            rcases hlie5 with h | h
            · rw [h]; exact fun e => HQ2.out e.symm
            · omega
          have ho5 := (own_bel HO3.out HB4.out).kept hgrow5 (Or.inr (fun e => HQ2.out (Option.some.inj e).symm))
          refine ⟨?_, ?_, ?_, ?_, hbf, ⟨g2, cap2, ?_, ?_, fun e => hg25 (Option.some.inj e).symm⟩, ?_, ?_⟩
          · rw [List.length_append]; omega
          · rw [List.length_append, List.length_append, List.length_singleton]; exact rch_mu hm hl2 (Nat.le_trans hnl (by omega)) hlt
          · rw [List.length_append, List.length_singleton]; exact hl2
          · rw [List.length_append, List.length_append, List.length_singleton]; exact rch_fl hfl2 hnl
          · rw [List.length_append, List.length_singleton]
          · rw [List.length_append, List.length_singleton]; exact ho5
          · rw [List.length_append]; exact hown5
          · exact (below_on HB3.out HB4.out).grown hgrow5 (below_on HB3.out HB4.out).size (fun k hk => by injection hk with hk; rw [← hk]; exact (HF3.out.lt _ rfl).1))
        have hmu := HI.out.mu
        clear hown5 hgrow5 hlie5 hqw4
        go_wp2
        go_roundg (gk - 1)
        case measure => omega
        case rel => exact ⟨i + 1, _, _, by go_num, J.out⟩
    · obtain rfl : i = Fr.length := by omega
      go_wp2
      go_ret
      exact ⟨_, O, rfl, HOW.out, HI.out.bf.done rfl, HI.out.bf.nod, hol, HI.out.bel⟩
end Go.Proofs.YthifmcnemeiphaaDoor
