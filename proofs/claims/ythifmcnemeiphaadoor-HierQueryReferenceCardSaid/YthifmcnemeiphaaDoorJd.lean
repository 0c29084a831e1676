/- Layer 16: the reference's Interfaces. -/
import Derived.Test.YthifmcnemeiphaaDoorJc
namespace Go.Proofs.YthifmcnemeiphaaDoor
open Go.ChangeShapes Go.WideShapes Go.ChangeAt Go.RowKit Go.PlainAid Go.Maps
set_option linter.unusedSimpArgs false
set_option linter.unusedVariables false

theorem ifL_iff {L : List CI} (hv : VH L) {a t : ByteArray} : t ∈ ifL L a ↔ fB L a = true ∧ fB L t = true ∧ (lkC L t).isI = true ∧ isV L a t = true := by
  unfold ifL
  split
  · rename_i hfa
    rw [sortB_mem, itF_iff hv hfa, hfa]
    simp
  · rename_i hfa
    constructor
    · intro h; cases h
    · intro h; exact absurd h.1 hfa
theorem nr_found {L : List CI} {a t : ByteArray} (h : Nr L a t) : fB L a = true := by
  cases hf : fB L a with
  | true => rfl
  | false =>
    have hn : nx L a = [] := by unfold Go.Proofs.YthifmcnemeiphaaDoor.nx; rw [hf]; rfl
    have : ∀ {u}, Nr L a u → False := by
      intro u hu
      induction hu with
      | one hm => rw [hn] at hm; cases hm
      | more _ _ ih => exact ih
    exact (this h).elim
theorem ifL_reach {L : List CI} (hv : VH L) {a t : ByteArray} {AL : List ByteArray} (hA : ∀ t, t ∈ AL ↔ t = a ∨ Nr L a t) : t ∈ AL.filter (fun s => fB L s && (lkC L s).isI) ↔ t ∈ ifL L a := by
  rw [List.mem_filter, ifL_iff hv, hA, Bool.and_eq_true]
  constructor
  · rintro ⟨h1 | h1, h2, h3⟩
    · subst h1
      exact ⟨h2, h2, h3, isV_refl L t⟩
    · have hf := nr_found h1
      exact ⟨hf, h2, h3, isV_iff.2 (Or.inr ⟨hf, Or.inr ⟨h2, nr_place hf h1 h2⟩⟩)⟩
  · rintro ⟨h1, h2, h3, h4⟩
    refine ⟨?_, h2, h3⟩
    rcases isV_iff.1 h4 with h | ⟨_, h | ⟨_, h⟩⟩
    · exact Or.inl h.symm
    · exfalso
      obtain ⟨x, k1, rfl, k3⟩ := nm_place h2
      obtain ⟨_, _, q3, q4, _⟩ := hv.all k1
      rw [k3] at h3
      have h5 := q4 h3
      rw [h] at q3
      rw [beq_iff_eq] at h5
      rw [h5] at q3
      exact absurd q3 (by decide +kernel)
    · exact Or.inr (place_nr h1 h t h2 rfl)
def ffL (L : List CI) (AL : List ByteArray) (i : Nat) : List ByteArray := (AL.take i).filter fun s => fB L s && (lkC L s).isI
theorem ffL_step {L : List CI} {AL : List ByteArray} {i : Nat} {s : ByteArray} (h : AL[i]? = some s) : ffL L AL (i + 1) = ffL L AL i ++ (if (fB L s && (lkC L s).isI) = true then [s] else []) := by
  unfold ffL
  rw [show AL.take (i + 1) = AL.take i ++ [s] by rw [List.take_add_one, h]; rfl, List.filter_append]
  congr 1
  rw [List.filter_cons, List.filter_nil]
theorem ffL_len (L : List CI) (AL : List ByteArray) (i : Nat) : (ffL L AL i).length ≤ AL.length := by
  unfold ffL
  exact Nat.le_trans (List.length_filter_le _ _) (by rw [List.length_take]; omega)
theorem own_lit1T {w : World} {B : Nat} (s : ByteArray) (hB : B ≤ w.heap.size) : (w.alloc (.cells #[.string s] 9)).ownsRow B 9 1 (.slice (some ⟨w.heap.size, 0, none⟩) 1 1) 1 (strs [s]) :=
  ⟨rfl, Or.inr ⟨w.heap.size, 1, #[.string s], rfl, hB, World.alloc_heap_new _ _, Nat.le_refl _, by decide, rfl, rfl⟩⟩
/-- the rows of the loop -/
structure FfInv (L : List CI) (AL : List ByteArray) (W : World) (i : Nat) (v : Value) (wr : World) : Prop where
  ex : ∃ F m g c, ffL L AL i = F ∧ F.length = m ∧ v = .slice (some ⟨g, 0, none⟩) m c ∧ wr.ownsRow W.heap.size 9 1 (.slice (some ⟨g, 0, none⟩) m c) m (strs F)
  bel : Below W.heap.size W wr
set_option maxRecDepth 100000 in
set_option maxHeartbeats 4000000 in
theorem rifs_any (A : Option Addr) (n c : Nat) (L : List CI) (a : ByteArray) (w : World) (hn : L.length = n) (hs : Small L) (hv : VH L) (h : CIs w w.heap.size A L) :
    Calls Tryd.prog 31 #[.slice A n c, .string a] w (StrOwn w (ifL L a)) := by
  have HL := Lib.hid h
  have HN := Lib.hid hn
  have hn60 : n ≤ 60 := by rw [← hn]; exact hs.1
  have RE := Lib.hid (fun (W : World) (h : Below w.heap.size w W) => reach_any A n c L a W HN.out hs (HL.out.up h))
  have HV := Lib.hid hv
  have OL := Lib.hid (own_lit1T (w := w) a (Nat.le_refl _))
  have KS := Lib.hid (fun (s : ByteArray) (W : World) (h : Below w.heap.size w W) => rlookup_any A n c L s W HN.out (by omega) (HL.out.up h))
  clear h hn hv
  go_enter Tryd.func31, Tryd.ntmps31
  go_upto_region 2 with (first | (go_at_call 60; (with_reducible refine (RE.out _ (below_al (Below.refl _ _) _)).mono ?_); rintro e w1 ⟨v1, R, rfl, ho1, hm1, hd1, hl1, hb1⟩; obtain ⟨A1, c1, rfl, _, _⟩ := own_shape ho1; have O1 := Lib.hid ho1; have HM1 := Lib.hid hm1; have HB1 := Lib.hid hb1; clear ho1 hm1 hd1 hb1) | (at_builtin; refine wpList_append_strsL rfl _ _ rfl w.heap.size 1 R.length c1 w.heap.size 1 _ [a] R A1 rfl (own_bel OL.out HB1.out) rfl (SRow.of_own O1.out).1 rfl (own_nilc O1.out) (by omega) (below_on (below_al (Below.refl _ _) _) HB1.out).size ?_; intro g2 cap2 w2 ho2 hg2 hl2; have O2 := Lib.hid ho2; have HB2 := Lib.hid ((below_on (below_al (Below.refl _ _) _) HB1.out).trans (grown_below hg2 (fun k hk => by injection hk with hk; omega) (below_on (below_al (Below.refl w.heap.size w) (.cells #[.string a] 9)) HB1.out).size)); clear ho2 hg2 hl2))
  have HAL := Lib.hid (fun t => show t ∈ [a] ++ R ↔ t = a ∨ Nr L a t by rw [List.mem_append, List.mem_singleton, HM1.out])
  have hlen : ([a] ++ R).length = 1 + R.length := by rw [List.length_append]; rfl
  have hp : 1 + R.length ≤ 2000 := by omega
  generalize [a] ++ R = AL at HAL hlen O2 ⊢
  have HLE := Lib.hid hlen
  generalize 1 + R.length = p at O2 HLE hlen hp ⊢
  clear hlen
  have hgl2 : g2 < w2.heap.size := (O2.out.lt g2 rfl).2
  have OF := Lib.hid (own_lit0T (w := w2) (Nat.le_refl _))
  have HF0 := Lib.hid (below_al (Below.refl w2.heap.size w2) (.cells #[] 9))
  go_wp2
  go_loopw [6, 7] (fun v z wr => ∃ i : Nat, i ≤ p ∧ z = .int .i64 i ∧ FfInv L AL w2 i v wr) (fun _ z _ => p - (intOf z).toNat)
  case atStart => exact ⟨0, Nat.zero_le _, rfl, ⟨⟨[], 0, w2.heap.size, 0, by unfold ffL; simp, rfl, rfl, OF.out⟩, HF0.out⟩⟩
  case round =>
    obtain ⟨i, hi, rfl, ⟨⟨F, m, g, d, hF, hm, rfl, hown⟩, hbel⟩⟩ := hrel
    have HF := Lib.hid hF
    have hmp : m ≤ p := by rw [← hm, ← hF, ← HLE.out]; exact ffL_len L AL i
    have HM := Lib.hid hm
    have HO := Lib.hid hown
    have HB := Lib.hid hbel
    have HBw := Lib.hid (below_on HB2.out hbel)
    clear hF hm hown hbel OF HF0
    by_cases hil : i < p
    · have hiA : i < AL.length := by rw [HLE.out]; exact hil
      obtain ⟨g', e1, k1, _, _⟩ := str_at (j := i) O2.out hiA HLE.out
      obtain rfl : g2 = g' := by injection e1 with h; injection h
      clear e1
      have hci := (HB.out.cell (p := ⟨g2, i, none⟩) hgl2).trans k1
      have HX := Lib.hid (show AL[i]? = some AL[i] from List.getElem?_eq_getElem hiA)
      clear k1
      generalize AL[i] = s at hci HX
      obtain ⟨k, hk⟩ : ∃ k, lkC L s = k := ⟨_, rfl⟩
      obtain ⟨fb, hfb⟩ : ∃ f, fB L s = f := ⟨_, rfl⟩
      have HST := Lib.hid (show ffL L AL (i + 1) = F ++ (if (fb && k.isI) = true then [s] else []) by rw [ffL_step HX.out, HF.out, hk, hfb])
      have KJ := Lib.hid (show Calls _ _ _ wr _ by have q := KS.out s wr HBw.out; rw [hk, hfb] at q; exact q)
      clear hk hfb
      go_upto_region 7 with (go_at_call 21; (with_reducible refine (KJ.out).mono ?_); rintro e w8 ⟨rfl, hb8⟩)
      have HBX := Lib.hid (World.alloc_heap_new w8 (.cells #[.string k.nm, .string k.su, .slice k.iA k.n k.c, .bool k.isI] 30))
      have HB9 := Lib.hid (below_al (below_on HB.out hb8) (.cells #[.string k.nm, .string k.su, .slice k.iA k.n k.c, .bool k.isI] 30))
      have HO9 := Lib.hid ((own_bel HO.out hb8).alloc (.cells #[.string k.nm, .string k.su, .slice k.iA k.n k.c, .bool k.isI] 30))
      generalize w8.alloc (.cells #[.string k.nm, .string k.su, .slice k.iA k.n k.c, .bool k.isI] 30) = W9 at HBX HB9 HO9 ⊢
      generalize w8.heap.size = B13 at HBX ⊢
      obtain ⟨⟨x0, x1, x2, x3⟩, _⟩ := four_cells HBX.out
      have hlb := lt_heap HBX.out
      have hc9 : W9.cell? ⟨g2, i, none⟩ = some (.string s) := by
        obtain ⟨g', e1, k1, _, _⟩ := str_at (j := i) O2.out hiA HLE.out
        obtain rfl : g2 = g' := by injection e1 with h; injection h
        have k2 := (HB9.out.cell (p := ⟨g2, i, none⟩) hgl2).trans k1
        rw [k2, ← Option.some.inj ((List.getElem?_eq_getElem hiA).symm.trans HX.out)]
      have hsz9 := HB9.out.size
      clear hb8 hci
      cases fb with
      | false =>
        have HS2 := Lib.hid (show ffL L AL (i + 1) = F by rw [HST.out]; simp)
        go_wp2
        go_roundw
        case rel => exact ⟨i + 1, by omega, by go_num, ⟨⟨F, m, g, d, HS2.out, HM.out, rfl, HO9.out⟩, HB9.out⟩⟩
        case measure => simp [intOf] <;> omega
      | true =>
        rcases Bool.eq_false_or_eq_true k.isI with hI | hI
        · have HS2 := Lib.hid (show ffL L AL (i + 1) = F ++ [s] by rw [HST.out, hI]; rfl)
          rw [hI] at x3
          clear hI
          go_wp2_with (at_builtin; refine wpList_append_strsL rfl _ _ rfl w2.heap.size m 1 1 g d _ F [s] (some ⟨W9.heap.size, 0, none⟩) rfl (HO9.out.alloc _) rfl (srow_new _ _) rfl (fun h => by cases h) (by omega) (by rw [World.size_alloc]; omega) ?_; intro g4 cap4 w4 ho4 hg4 hl4; have O4 := Lib.hid ho4; have HBc := Lib.hid ((below_al HB9.out (.cells #[.string s] 9)).trans (grown_below hg4 (fun k hk => (HO9.out.lt k hk).1) (by rw [World.size_alloc]; omega))); clear ho4 hg4 hl4)
          go_roundw
          case rel => exact ⟨i + 1, by omega, by go_num, ⟨⟨F ++ [s], m + 1, g4, cap4, HS2.out, by rw [List.length_append, HM.out]; rfl, rfl, O4.out⟩, HBc.out⟩⟩
          case measure => simp [intOf] <;> omega
        · have HS2 := Lib.hid (show ffL L AL (i + 1) = F by rw [HST.out, hI]; simp)
          rw [hI] at x3
          clear hI
          go_wp2
          go_roundw
          case rel => exact ⟨i + 1, by omega, by go_num, ⟨⟨F, m, g, d, HS2.out, HM.out, rfl, HO9.out⟩, HB9.out⟩⟩
          case measure => simp [intOf] <;> omega
    · obtain rfl : i = p := by omega
      have hrs : rsL F = ifL L a := rsL_ifs HV.out a (fun t => by
        rw [← HF.out, ffL, List.take_of_length_le (by rw [HLE.out]; omega)]
        exact ifL_reach HV.out HAL.out)
      have RI := Lib.hid (rising_any (some ⟨g, 0, none⟩) m d F wr HM.out (by omega) (SRow.of_own HO.out).1)
      rw [hrs] at RI
      have hsw := HBw.out.size
      clear hrs
      go_wp2_with (go_at_call 62; (with_reducible refine (RI.out).mono ?_); rintro e w5 ⟨v5, rfl, ho5, hb5⟩; have O5 := Lib.hid ho5; have HB5 := Lib.hid hb5; clear ho5 hb5)
      go_ret
      exact ⟨_, rfl, own_base O5.out hsw, below_on HBw.out HB5.out⟩
end Go.Proofs.YthifmcnemeiphaaDoor
