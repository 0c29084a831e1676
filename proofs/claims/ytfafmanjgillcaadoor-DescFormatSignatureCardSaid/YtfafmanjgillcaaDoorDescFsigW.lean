/- Layer 4: desc.FormatSignature, the walk. -/
import Derived.Test.YtfafmanjgillcaaDoorDescFsig
namespace Go.Proofs.YtfafmanjgillcaaDoor
open Go.ChangeShapes Go.WideShapes Go.ChangeAt Go.RowKit Go.PlainAid
set_option linter.unusedSimpArgs false
set_option linter.unusedVariables false

theorem fsig_many (A : Option Addr) (n c : Nat) (ps : List Ty) (d b : Int) (m : ByteArray) (w : World) (hn : ps.length = n) (h16 : 16 < n) :
    Calls Tryd.prog 46 #[.agg #[.slice A n c, .int .i64 d, .int .u8 b, .string m]] w fun e w' => e = .returned (.tuple #[.string (fsS ps (d, b, m)), .int .i64 (fsE ps (d, b, m))]) ∧ Below w.heap.size w w' := by
  have g := fs_many (ps := ps) (r := (d, b, m)) (by omega)
  rw [g.1, g.2]
  have hB : Below w.heap.size w w := Below.refl _ _
  clear g hn
  go_enter Tryd.func46, Tryd.ntmps46
  go_wp2
  go_ret2
  exact ⟨rfl, below_al hB _⟩

set_option maxRecDepth 100000 in
set_option maxHeartbeats 2000000 in
theorem fsig_few (A : Option Addr) (n c : Nat) (ps : List Ty) (d b : Int) (m : ByteArray) (w : World) (hn : ps.length = n) (h16 : n ≤ 16) (hty : Tys w w.heap.size A ps) :
    Calls Tryd.prog 46 #[.agg #[.slice A n c, .int .i64 d, .int .u8 b, .string m]] w fun e w' => e = .returned (.tuple #[.string (fsS ps (d, b, m)), .int .i64 (fsE ps (d, b, m))]) ∧ Below w.heap.size w w' := by
  have HT := Lib.hid hty
  have HN := Lib.hid hn
  clear hty hn
  go_enter Tryd.func46, Tryd.ntmps46
  go_wp2_with (go_at_call 64; refine (wbyte_any (w.heap.size + 1) (w.heap.size + 1) [] 40 _ (fs_fresh w _) (by decide) (by simp)).mono ?_; rintro e w1 ⟨rfl, hbl, hbb⟩; have I0 := Lib.hid (fs_start w _ hbl hbb ps); obtain ⟨hc1, hf1⟩ : (∀ o, w1.cell? ⟨w.heap.size, o, none⟩ = (w.alloc (.cells #[.slice A n c, .int .i64 d, .int .u8 b, .string m] 41)).cell? ⟨w.heap.size, o, none⟩) ∧ w.heap.size < w1.heap.size := ⟨fun o => I0.out.bel.cell (p := ⟨w.heap.size, o, none⟩) (Nat.lt_succ_self _), by have := I0.out.size; omega⟩; clear hbl hbb)
  go_loopw [15] (fun i wr => ∃ k : Nat, k ≤ n ∧ i = .int .i64 k ∧ FsInv w (w.alloc (.cells #[.slice A n c, .int .i64 d, .int .u8 b, .string m] 41)) wr ps k) (fun i _ => n - (intOf i).toNat)
  case atStart => exact ⟨0, Nat.zero_le _, rfl, I0.out⟩
  case round =>
    obtain ⟨k, hk, rfl, I⟩ := hrel
    clear hc1 hf1
    have hsz := I.size
    have hlen := I.len (by have := HN.out; omega)
    have hxs : w.heap.size < wr.heap.size := by omega
    have hx1 : w.heap.size + 1 < wr.heap.size := by omega
    have hbox : ∀ o, wr.cell? ⟨w.heap.size, o, none⟩ = (w.alloc (.cells #[.slice A n c, .int .i64 d, .int .u8 b, .string m] 41)).cell? ⟨w.heap.size, o, none⟩ := fun o => I.bel.cell (p := ⟨w.heap.size, o, none⟩) (Nat.lt_succ_self _)
    have hBw : Below w.heap.size w wr := (below_al (Below.refl _ _) _).trans (I.bel.mono (by omega))
    have I' := Lib.hid I
    clear I
    by_cases hlt : k < n
    · have hp : ∃ p, ps[k]? = some p := ⟨ps[k]'(by rw [HN.out]; exact hlt), List.getElem?_eq_getElem _⟩
      obtain ⟨⟨pd, pb, pn⟩, hp⟩ := hp
      rcases HT.out with h0 | ⟨g, o, rfl, hg, hcell⟩
      · rw [h0] at hp; cases hp
      · obtain ⟨a0, a1, a2⟩ := hcell k _ hp
        have up : ∀ j v, w.cell? ⟨g, j, none⟩ = some v → wr.cell? ⟨g, j, none⟩ = some v := fun j v h => ((I'.out.bel.cell (p := ⟨g, j, none⟩) (by show g < _; omega)).trans (World.cell?_alloc_lt _ _ _ hg)).trans h
        have b0 := up _ _ a0
        have b1 := up _ _ a1
        have b2 := up _ _ a2
        have HP := Lib.hid hp
        clear a0 a1 a2 up hcell hp
        cases hok : fsOk (pd, pb, pn) with
        | false =>
          have G := Lib.hid (fs_bad (ps := ps) (r := (d, b, m)) (by have := HN.out; omega) (all_bad HP.out hok _))
          cases hv : validB pd pb pn with
          | false =>
            clear hok
            go_wp2_with (go_at_call 38; refine (valid_any _ _ _ _).mono ?_; rintro e w1 ⟨rfl, hb1⟩; have hs1 := hb1.size; simp only [World.size_alloc] at hs1; have k1 := (hb1.block wr.heap.size (by simp)).trans (heap_alloc_new wr _); obtain ⟨c0, c1, c2, _, _, _⟩ := three_cells k1; have hw1 := Lib.hid ((below_al (Below.refl wr.heap.size wr) _).trans (hb1.mono (by simp))); clear hb1 k1)
            go_ret2
            exact ⟨by rw [G.out.1, G.out.2]; rfl, hBw.trans (hw1.out.mono (by omega))⟩
          | true =>
            have h86 : (pb == 86) = true := by unfold fsOk at hok; simp only [hv] at hok; simpa using hok
            clear hok
            go_wp2_with (go_at_call 38; refine (valid_any _ _ _ _).mono ?_; rintro e w1 ⟨rfl, hb1⟩; have hs1 := hb1.size; simp only [World.size_alloc] at hs1; have k1 := (hb1.block wr.heap.size (by simp)).trans (heap_alloc_new wr _); obtain ⟨c0, c1, c2, _, _, _⟩ := three_cells k1; have hw1 := Lib.hid ((below_al (Below.refl wr.heap.size wr) _).trans (hb1.mono (by simp))); clear hb1 k1)
            go_ret2
            exact ⟨by rw [G.out.1, G.out.2]; rfl, hBw.trans (hw1.out.mono (by omega))⟩
        | true =>
          have hv : validB pd pb pn = true := fsOk_valid hok
          have h86 : (pb == 86) = false := by unfold fsOk at hok; rw [Bool.and_eq_true] at hok; simpa using hok.2
          have htl := txt_size hv
          have hnl := valid_name hv
          have OK := Lib.hid hok
          clear hok
          go_wp2_with (first | (go_at_call 38; refine (valid_any _ _ _ _).mono ?_; rintro e w1 ⟨rfl, hb1⟩; have hs1 := hb1.size; simp only [World.size_alloc] at hs1; have k1 := (hb1.block wr.heap.size (by simp)).trans (heap_alloc_new wr _); obtain ⟨c0, c1, c2, _, _, _⟩ := three_cells k1; have hw1 := Lib.hid ((below_al (Below.refl wr.heap.size wr) _).trans (hb1.mono (by simp))); clear hb1 k1) | (go_at_call 61; refine (text_any _ _ _ hv (by omega) _).mono ?_; rintro e w2 ⟨rfl, hb2⟩; have hs2 := hb2.size; have hw2 := Lib.hid (hw1.out.trans (hb2.mono (by omega))); clear hb2) | (go_at_call 65; refine (wstr_any (w.heap.size + 1) (w.heap.size + 1) _ _ _ (Or.inr (built_below I'.out.bld hw2.out)) (by omega) (by omega)).mono ?_; rintro e w3 ⟨rfl, hbl, hb3⟩; have J := Lib.hid (fs_next I'.out HP.out OK.out hbl ((hw2.out.mono (by omega)).trans hb3)); clear hbl hb3))
          go_roundw
          case rel => exact ⟨k + 1, by omega, by go_num, J.out⟩
          case measure => simp [intOf]; omega
    · obtain rfl : k = n := by omega
      cases hv : validB d b m with
      | false =>
        have G := Lib.hid (fs_bad (ps := ps) (r := (d, b, m)) (by have := HN.out; omega) (by rw [hv, Bool.and_false]))
        go_wp2_with (go_at_call 38; refine (valid_any _ _ _ _).mono ?_; rintro e w1 ⟨rfl, hb1⟩; have hs1 := hb1.size; have hbox1 : ∀ o, w1.cell? ⟨w.heap.size, o, none⟩ = (w.alloc (.cells #[.slice A k c, .int .i64 d, .int .u8 b, .string m] 41)).cell? ⟨w.heap.size, o, none⟩ := (fun o => (hb1.cell (p := ⟨w.heap.size, o, none⟩) hxs).trans (hbox o)); have HB1 := Lib.hid hb1; clear hb1)
        go_ret2
        exact ⟨by rw [G.out.1, G.out.2]; rfl, hBw.trans (HB1.out.mono (by omega))⟩
      | true =>
        have htl := txt_size hv
        have hnl := valid_name hv
        go_wp2_with (first | (go_at_call 38; refine (valid_any _ _ _ _).mono ?_; rintro e w1 ⟨rfl, hb1⟩; have hs1 := hb1.size; have hbox1 : ∀ o, w1.cell? ⟨w.heap.size, o, none⟩ = (w.alloc (.cells #[.slice A k c, .int .i64 d, .int .u8 b, .string m] 41)).cell? ⟨w.heap.size, o, none⟩ := (fun o => (hb1.cell (p := ⟨w.heap.size, o, none⟩) hxs).trans (hbox o)); have HB1 := Lib.hid hb1; clear hb1) | (go_at_call 64; refine (wbyte_any (w.heap.size + 1) (w.heap.size + 1) _ 41 _ (Or.inr (built_below I'.out.bld HB1.out)) (by omega) (by omega)).mono ?_; rintro e w2 ⟨rfl, hbl2, hb2⟩; have hs2 := hb2.size; have hbox2 : ∀ o, w2.cell? ⟨w.heap.size, o, none⟩ = (w.alloc (.cells #[.slice A k c, .int .i64 d, .int .u8 b, .string m] 41)).cell? ⟨w.heap.size, o, none⟩ := (fun o => (hb2.cell (p := ⟨w.heap.size, o, none⟩) (Nat.lt_succ_self _)).trans (hbox1 o)); have BL2 := Lib.hid hbl2; have HB2 := Lib.hid hb2; clear hbl2 hb2) | (go_at_call 61; refine (text_any _ _ _ hv (by omega) _).mono ?_; rintro e w3 ⟨rfl, hb3⟩; have hs3 := hb3.size; have HB3 := Lib.hid hb3; clear hb3) | (go_at_call 65; refine (wstr_any (w.heap.size + 1) (w.heap.size + 1) _ _ _ (Or.inr (built_below BL2.out HB3.out)) (by rw [List.length_append]; simp; omega) (by omega)).mono ?_; rintro e w4 ⟨rfl, hbl4, hb4⟩; have hs4 := hb4.size; have J := Lib.hid (fs_end (r := (d, b, m)) I'.out HN.out hbl4); have HB4 := Lib.hid hb4; clear hbl4 hb4) | (go_at_call 66; refine (Tryd.Builder_String _ _ _ _ J.out.2 (by unfold fsL; simp)).mono ?_; rintro e w5 ⟨rfl, hb5⟩; have HB5 := Lib.hid hb5; clear hb5))
        go_ret2
        have G := fs_ok (ps := ps) (r := (d, b, m)) (by have := HN.out; omega) (by rw [J.out.1, hv]; rfl)
        exact ⟨by rw [G.1, G.2]; rfl, ((((hBw.trans (HB1.out.mono (by omega))).trans (HB2.out.mono (by omega))).trans (HB3.out.mono (by omega))).trans (HB4.out.mono (by omega))).trans (HB5.out.mono (by omega))⟩

theorem fsig_any (A : Option Addr) (n c : Nat) (ps : List Ty) (d b : Int) (m : ByteArray) (w : World) (hn : ps.length = n) (hty : Tys w w.heap.size A ps) :
    Calls Tryd.prog 46 #[.agg #[.slice A n c, .int .i64 d, .int .u8 b, .string m]] w fun e w' => e = .returned (.tuple #[.string (fsS ps (d, b, m)), .int .i64 (fsE ps (d, b, m))]) ∧ Below w.heap.size w w' := by
  by_cases h16 : n ≤ 16
  · exact fsig_few A n c ps d b m w hn h16 hty
  · exact fsig_many A n c ps d b m w hn (by omega)

end Go.Proofs.YtfafmanjgillcaaDoor
