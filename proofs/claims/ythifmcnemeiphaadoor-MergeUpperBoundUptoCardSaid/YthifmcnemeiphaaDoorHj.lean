/- Layer 16: Check of the package. -/
import Derived.Test.YthifmcnemeiphaaDoorHi
namespace Go.Proofs.YthifmcnemeiphaaDoor
open Go.ChangeShapes Go.WideShapes Go.ChangeAt Go.RowKit Go.PlainAid Go.Maps
set_option linter.unusedSimpArgs false
set_option linter.unusedVariables false

theorem ce_any (A : Option Addr) (n c : Nat) (L : List CI) (F : Value) (i : Nat) (w : World) (hn : L.length = n) (hc : n ≤ 1000000) (h : CIs w w.heap.size A L) (hF : Fd L F w) (hi : i < n) (x : CI) (hx : L[i]? = some x) :
    Calls Tryd.prog 56 #[.slice A n c, F, .int .i64 i] w fun e w' => e = .returned (.int .i64 (ceV L i x)) ∧ Below w.heap.size w w' := by
  unfold ceV
  cases h1 : clsB x.nm with
  | false => rw [if_pos rfl]; exact ce_a A n c L F i w hn hc h hF hi x hx h1
  | true =>
    rw [if_neg (by simp)]
    by_cases h2 : fI L x.nm = i
    · rw [if_neg (by simpa using h2)]
      cases h3 : x.su.toList.isEmpty with
      | true =>
        cases h3b : (x.nm.toList == rootL) with
        | false => rw [if_pos (Or.inl (by simp))]; exact ce_ct A n c L F i w hn hc h hF hi x hx h1 h2 h3 h3b
        | true =>
          cases h4 : x.isI with
          | true =>
            have h5 : (x.su.toList == rootL) = false := by
              cases hs : x.su.toList with
              | nil => rfl
              | cons a b => rw [hs] at h3; cases h3
            rw [if_pos (Or.inr ⟨rfl, h5⟩)]; exact ce_dt A n c L F i w hn hc h hF hi x hx h1 h2 h3 h3b h4 h5
          | false =>
            rw [if_neg (by simp), if_neg (by simp)]
            exact ce_g1 A n c L F i w hn hc h hF hi x hx h1 h2 h3 h3b h4
      | false =>
        cases h3b : (x.nm.toList == rootL) with
        | true => rw [if_pos (Or.inl (by simp))]; exact ce_cf A n c L F i w hn hc h hF hi x hx h1 h2 h3 h3b
        | false =>
          cases h4 : x.isI with
          | false =>
            rw [if_neg (by simp)]
            cases h6 : fB L x.su with
            | false => rw [if_pos ⟨rfl, Or.inl rfl⟩]; exact ce_e2 A n c L F i w hn hc h hF hi x hx h1 h2 h3 h3b h4 h6
            | true =>
              cases h7 : (lkC L x.su).isI with
              | true => rw [if_pos ⟨rfl, Or.inr rfl⟩]; exact ce_f2 A n c L F i w hn hc h hF hi x hx h1 h2 h3 h3b h4 h6 h7
              | false => rw [if_neg (by simp)]; exact ce_g2 A n c L F i w hn hc h hF hi x hx h1 h2 h3 h3b h4 h6 h7
          | true =>
            cases h5 : (x.su.toList == rootL) with
            | false => rw [if_pos (Or.inr ⟨rfl, rfl⟩)]; exact ce_df A n c L F i w hn hc h hF hi x hx h1 h2 h3 h3b h4 h5
            | true =>
              rw [if_neg (by simp)]
              cases h6 : fB L x.su with
              | false => rw [if_pos ⟨rfl, Or.inl rfl⟩]; exact ce_e3 A n c L F i w hn hc h hF hi x hx h1 h2 h3 h3b h4 h5 h6
              | true =>
                cases h7 : (lkC L x.su).isI with
                | true => rw [if_pos ⟨rfl, Or.inr rfl⟩]; exact ce_f3 A n c L F i w hn hc h hF hi x hx h1 h2 h3 h3b h4 h5 h6 h7
                | false => rw [if_neg (by simp)]; exact ce_g3 A n c L F i w hn hc h hF hi x hx h1 h2 h3 h3b h4 h5 h6 h7
    · rw [if_pos h2]; exact ce_b A n c L F i w hn hc h hF hi x hx h1 h2

/-- the first invalid entry's name and error -/
def ChkV (L : List CI) (s : ByteArray) (v : Int) : Prop :=
  (∃ i x, L[i]? = some x ∧ (∀ j y, j < i → L[j]? = some y → ceV L j y = 0) ∧ ceV L i x = v ∧ v ≠ 0 ∧ s = x.nm) ∨ ((∀ j y, L[j]? = some y → ceV L j y = 0) ∧ v = 0 ∧ s = ⟨#[]⟩)
theorem ChkV.one {L : List CI} {s t : ByteArray} {v u : Int} (h : ChkV L s v) (k : ChkV L t u) : s = t ∧ v = u := by
  rcases h with ⟨i, x, h1, h2, h3, h4, h5⟩ | ⟨h1, h2, h3⟩
  · rcases k with ⟨j, y, k1, k2, k3, k4, k5⟩ | ⟨k1, k2, k3⟩
    · rcases Nat.lt_trichotomy i j with hl | rfl | hl
      · exact absurd ((k2 i x hl h1).symm.trans h3) (fun e => h4 e.symm)
      · rw [h1] at k1
        obtain rfl := Option.some.inj k1
        exact ⟨h5.trans k5.symm, h3.symm.trans k3⟩
      · exact absurd ((h2 j y hl k1).symm.trans k3) (fun e => k4 e.symm)
    · exact absurd ((k1 i x h1).symm.trans h3) (fun e => h4 e.symm)
  · rcases k with ⟨j, y, k1, k2, k3, k4, k5⟩ | ⟨k1, k2, k3⟩
    · exact absurd ((h1 j y k1).symm.trans k3) (fun e => k4 e.symm)
    · exact ⟨h3.trans k3.symm, h2.trans k2.symm⟩
def ChkRet (L : List CI) (w : World) (e : Ending) (w' : World) : Prop := (∃ s v, e = .returned (.tuple #[.string s, .int .i64 v]) ∧ ChkV L s v) ∧ Below w.heap.size w w'
set_option maxRecDepth 100000 in
set_option maxHeartbeats 4000000 in
theorem check_any (A : Option Addr) (n c : Nat) (L : List CI) (w : World) (hn : L.length = n) (hc : n ≤ 1000000) (h : CIs w w.heap.size A L) :
    Calls Tryd.prog 17 #[.slice A n c] w (ChkRet L w) := by
  have HL := Lib.hid h
  have HN := Lib.hid hn
  clear h hn
  go_enter Tryd.func17, Tryd.ntmps17
  go_upto_region 2 with (go_at_call 55; (with_reducible refine (finder_any A n c L _ HN.out hc HL.out).mono ?_); rintro e W ⟨F, rfl, hF, hb⟩; obtain ⟨kk, bb, rfl, hFF⟩ := hF; have HF := Lib.hid (show Fd L (.func (.func kk) #[] #[.pointer (some ⟨bb, 0, none⟩)]) W from ⟨kk, bb, rfl, hFF⟩); have HB := Lib.hid hb; clear hFF hb)
  go_wp2
  go_loopw [12] (fun jv wr => ∃ j : Nat, jv = .int .i64 j ∧ j ≤ n ∧ Hid (Below W.heap.size W wr) ∧ Hid (∀ k y, k < j → L[k]? = some y → ceV L k y = 0)) (fun jv _ => n - (intOf jv).toNat)
  case atStart => exact ⟨0, rfl, Nat.zero_le _, Lib.hid (Below.refl _ _), Lib.hid fun k y hk => absurd hk (Nat.not_lt_zero _)⟩
  case round =>
    obtain ⟨j, rfl, hj, hB, hg⟩ := hrel
    have HBW := Lib.hid (below_on HB.out hB.out)
    by_cases hjl : j < n
    · have hjx : j < L.length := by rw [HN.out]; exact hjl
      obtain ⟨g, o, rfl, hgl, hok, c0, c1, c2, c3⟩ := (HL.out.below HBW.out).at hjx
      have HX := Lib.hid (show L[j]? = some L[j] from List.getElem?_eq_getElem hjx)
      clear hok
      generalize L[j] = x at c0 c1 c2 c3 HX
      have HLW := Lib.hid (HL.out.up HBW.out)
      have HFW := Lib.hid (HF.out.up hB.out)
      have hxb := World.alloc_heap_new wr (.cells #[.string x.nm, .string x.su, .slice x.iA x.n x.c, .bool x.isI] 30)
      have hba := below_al (Below.refl wr.heap.size wr) (.cells #[.string x.nm, .string x.su, .slice x.iA x.n x.c, .bool x.isI] 30)
      go_upto_region 5 with fail
      have HL2 := Lib.hid (HLW.out.up hba)
      have HF2 := Lib.hid (HFW.out.up hba)
      have HB2 := Lib.hid (below_on hB.out hba)
      generalize wr.alloc (.cells #[.string x.nm, .string x.su, .slice x.iA x.n x.c, .bool x.isI] 30) = W2 at hxb HL2 HF2 HB2 ⊢
      generalize wr.heap.size = B6 at hxb ⊢
      clear hba c0 c1 c2 c3 HLW HFW
      have hlb := lt_heap hxb
      obtain ⟨v, hv⟩ : ∃ v, ceV L j x = v := ⟨_, rfl⟩
      have HV := Lib.hid hv
      clear hv
      go_upto_region 6 with (go_at_call 56; (with_reducible refine (ce_any _ n _ L _ j _ HN.out hc HL2.out HF2.out hjl x HX.out).mono ?_); rintro e w3 ⟨rfl, hb3⟩; rw [HV.out]; have hxb3 := (hb3.block _ hlb).trans hxb; have HB3 := Lib.hid (below_on HB2.out hb3); clear hb3)
      obtain ⟨⟨x0, x1, x2, x3⟩, _⟩ := four_cells hxb3
      clear hxb hxb3
      by_cases hz : v = 0
      · subst hz
        have HG := Lib.hid (show ∀ k y, k < j + 1 → L[k]? = some y → ceV L k y = 0 from fun k y hk hy => by
          rcases Nat.lt_or_ge k j with h | h
          · exact hg.out k y h hy
          · obtain rfl : k = j := by omega
            rw [HX.out] at hy
            obtain rfl := Option.some.inj hy
            exact HV.out)
        go_wp2
        go_roundw
        case rel => exact ⟨j + 1, by go_num, by omega, HB3, HG⟩
        case measure => simp [intOf]; omega
      · have hz1 : (v != 0) = true := by simpa using hz
        have HR := Lib.hid (show ChkV L x.nm v from Or.inl ⟨j, x, HX.out, hg.out, HV.out, hz, rfl⟩)
        clear hz
        go_wp2
        go_ret2
        exact ⟨⟨_, _, rfl, HR.out⟩, below_on HB.out HB3.out⟩
    · obtain rfl : j = n := by omega
      have HR := Lib.hid (show ChkV L ⟨#[]⟩ 0 from Or.inr ⟨fun k y hy => hg.out k y (by rw [← HN.out]; exact lt_of_some hy) hy, rfl, rfl⟩)
      go_wp2
      go_ret2
      exact ⟨⟨_, _, rfl, HR.out⟩, HBW.out⟩
end Go.Proofs.YthifmcnemeiphaaDoor
