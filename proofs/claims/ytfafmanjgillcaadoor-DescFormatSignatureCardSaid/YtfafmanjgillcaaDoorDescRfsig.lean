/- Layer 4: the reference's FormatSignature. -/
import Derived.Test.YtfafmanjgillcaaDoorDescFsigW
namespace Go.Proofs.YtfafmanjgillcaaDoor
open Go.ChangeShapes Go.WideShapes Go.ChangeAt Go.RowKit Go.PlainAid
set_option linter.unusedSimpArgs false
set_option linter.unusedVariables false

/-- the reference's Format at a valid type, and at another -/
theorem rfmt_yes (d b : Int) (n : ByteArray) (hv : validB d b n = true) (w : World) :
    Calls Tryd.prog 31 #[.agg #[.int .i64 d, .int .u8 b, .string n]] w fun e w' => e = .returned (.tuple #[.string (txt d b n), .int .i64 0]) ∧ Below w.heap.size w w' := by
  have h := rfmt_any d b n (by have := valid_name hv; omega) w
  rw [(fm_ok hv).1, (fm_ok hv).2] at h
  exact h
theorem rfmt_not (d b : Int) (n : ByteArray) (hv : validB d b n = false) (hn : n.size ≤ 9223372036854775807) (w : World) :
    Calls Tryd.prog 31 #[.agg #[.int .i64 d, .int .u8 b, .string n]] w fun e w' => e = .returned (.tuple #[.string ⟨#[]⟩, .int .i64 13]) ∧ Below w.heap.size w w' := by
  have hB : Below w.heap.size w w := Below.refl _ _
  go_enter Tryd.func31, Tryd.ntmps31
  go_wp2_with (go_at_call 39; refine (rvalid_any _ _ _ (by omega) _).mono ?_; rintro e w1 ⟨rfl, hb1⟩; have k1 := one_box hb1; obtain ⟨c0, c1, c2, f0, f1, f2⟩ := three_cells k1; replace hB := Below.trans (below_al hB _) (hb1.mono (below_al hB _).size); clear hb1 k1)
  go_ret2
  exact ⟨rfl, hB⟩

def sBytes (l : List UInt8) : ByteArray := ⟨l.toArray⟩
theorem sBytes_data (l : List UInt8) : (sBytes l).data.toList = l := by unfold sBytes; simp
theorem sBytes_size (l : List UInt8) : (sBytes l).size = l.length := by rw [← len_data, sBytes_data]
theorem sBytes_app (l : List UInt8) (s : ByteArray) : sBytes l ++ s = sBytes (l ++ s.data.toList) := by
  apply ba_ext
  rw [app_data, sBytes_data, sBytes_data]

structure RfInv (w W0 wr : World) (ps : List Ty) (k : Nat) : Prop where
  ok : (ps.take k).all fsOk = true
  bel : Below (w.heap.size + 1) W0 wr
  size : w.heap.size + 1 ≤ wr.heap.size
theorem rf_len {ps : List Ty} {k : Nat} (ok : (ps.take k).all fsOk = true) (h16 : ps.length ≤ 16) : (sBytes (40 :: (ps.take k).flatMap txL)).size ≤ 1185 := by
  rw [sBytes_size, List.length_cons]
  have := flat_len _ ok
  have h2 : (ps.take k).length ≤ 16 := by rw [List.length_take]; omega
  omega
theorem rf_take {ps : List Ty} {k : Nat} {p : Ty} (hp : ps[k]? = some p) : sBytes (40 :: (ps.take (k + 1)).flatMap txL) = sBytes (40 :: (ps.take k).flatMap txL) ++ txt p.1 p.2.1 p.2.2 := by
  have ht : ps.take (k + 1) = ps.take k ++ [p] := by rw [List.take_add_one, hp]; rfl
  rw [sBytes_app, ht, List.flatMap_append]
  simp [txL]
theorem rf_ok {ps : List Ty} {k : Nat} {p : Ty} (ok : (ps.take k).all fsOk = true) (hp : ps[k]? = some p) (h : fsOk p = true) : (ps.take (k + 1)).all fsOk = true := by
  have ht : ps.take (k + 1) = ps.take k ++ [p] := by rw [List.take_add_one, hp]; rfl
  rw [ht, List.all_append, ok]; simp [h]
theorem rf_end {ps : List Ty} {k : Nat} {r : Ty} (hk : ps.length = k) : sBytes (40 :: (ps.take k).flatMap txL) ++ ⟨#[41]⟩ ++ txt r.1 r.2.1 r.2.2 = ⟨(fsL ps r).toArray⟩ := by
  rw [List.take_of_length_le (by omega), sBytes_app, sBytes_app]
  unfold fsL sBytes txL
  simp

theorem rfsig_many (A : Option Addr) (n c : Nat) (ps : List Ty) (d b : Int) (m : ByteArray) (w : World) (hn : ps.length = n) (h16 : 16 < n) :
    Calls Tryd.prog 47 #[.agg #[.slice A n c, .int .i64 d, .int .u8 b, .string m]] w fun e w' => e = .returned (.tuple #[.string (fsS ps (d, b, m)), .int .i64 (fsE ps (d, b, m))]) ∧ Below w.heap.size w w' := by
  have g := fs_many (ps := ps) (r := (d, b, m)) (by omega)
  rw [g.1, g.2]
  have hB : Below w.heap.size w w := Below.refl _ _
  clear g hn
  go_enter Tryd.func47, Tryd.ntmps47
  go_wp2
  go_ret2
  exact ⟨rfl, below_al hB _⟩

set_option maxRecDepth 100000 in
set_option maxHeartbeats 2000000 in
theorem rfsig_few (A : Option Addr) (n c : Nat) (ps : List Ty) (d b : Int) (m : ByteArray) (w : World) (hn : ps.length = n) (h16 : n ≤ 16) (hty : Tys w w.heap.size A ps) (hnm : ∀ p ∈ ps, p.2.2.size ≤ 9223372036854775807) (hm : m.size ≤ 9223372036854775807) :
    Calls Tryd.prog 47 #[.agg #[.slice A n c, .int .i64 d, .int .u8 b, .string m]] w fun e w' => e = .returned (.tuple #[.string (fsS ps (d, b, m)), .int .i64 (fsE ps (d, b, m))]) ∧ Below w.heap.size w w' := by
  have HT := Lib.hid hty
  have HN := Lib.hid hn
  have HM := Lib.hid hnm
  clear hty hn hnm
  go_enter Tryd.func47, Tryd.ntmps47
  go_wp2
  go_loopw [4, 18] (fun s i wr => ∃ k : Nat, k ≤ n ∧ i = .int .i64 k ∧ s = .string (sBytes (40 :: (ps.take k).flatMap txL)) ∧ RfInv w (w.alloc (.cells #[.slice A n c, .int .i64 d, .int .u8 b, .string m] 41)) wr ps k) (fun _ i _ => n - (intOf i).toNat)
  case atStart => exact ⟨0, Nat.zero_le _, rfl, rfl, rfl, Below.refl _ _, by simp⟩
  case round =>
    obtain ⟨k, hk, rfl, rfl, I⟩ := hrel
    have hsz := I.size
    have hlen := rf_len I.ok (by have := HN.out; omega)
    have hxs : w.heap.size < wr.heap.size := by omega
    have hbox : ∀ o, wr.cell? ⟨w.heap.size, o, none⟩ = (w.alloc (.cells #[.slice A n c, .int .i64 d, .int .u8 b, .string m] 41)).cell? ⟨w.heap.size, o, none⟩ := fun o => I.bel.cell (p := ⟨w.heap.size, o, none⟩) (Nat.lt_succ_self _)
    have hBw : Below w.heap.size w wr := (below_al (Below.refl _ _) _).trans (I.bel.mono (by omega))
    have I' := Lib.hid I
    clear I
    by_cases hlt : k < n
    · have hp : ∃ p, ps[k]? = some p := ⟨ps[k]'(by rw [HN.out]; exact hlt), List.getElem?_eq_getElem _⟩
      obtain ⟨⟨pd, pb, pn⟩, hp⟩ := hp
      have hpn : pn.size ≤ 9223372036854775807 := HM.out _ (List.mem_of_getElem? hp)
      rcases HT.out with h0 | ⟨g, o, rfl, hg, hcell⟩
      · rw [h0] at hp; cases hp
      · obtain ⟨a0, a1, a2⟩ := hcell k _ hp
        have up : ∀ j v, w.cell? ⟨g, j, none⟩ = some v → wr.cell? ⟨g, j, none⟩ = some v := fun j v h => ((I'.out.bel.cell (p := ⟨g, j, none⟩) (by show g < _; omega)).trans (World.cell?_alloc_lt _ _ _ hg)).trans h
        have b0 := up _ _ a0
        have b1 := up _ _ a1
        have b2 := up _ _ a2
        have HP := Lib.hid hp
        clear a0 a1 a2 up hcell hp
        cases hok : fsOk (pd, pb, pn) with
        | false =>
          have G := Lib.hid (fs_bad (ps := ps) (r := (d, b, m)) (by have := HN.out; omega) (all_bad HP.out hok _))
          cases hv : validB pd pb pn with
          | false =>
            clear hok
            go_wp2_with (go_at_call 31; refine (rfmt_not _ _ _ hv hpn _).mono ?_; rintro e w1 ⟨rfl, hb1⟩; have k1 := (hb1.block wr.heap.size (by simp)).trans (heap_alloc_new wr _); obtain ⟨c0, c1, c2, _, _, _⟩ := three_cells k1; have hw1 := Lib.hid ((below_al (Below.refl wr.heap.size wr) _).trans (hb1.mono (by simp))); clear hb1 k1)
            go_ret2
            exact ⟨by rw [G.out.1, G.out.2]; rfl, hBw.trans (hw1.out.mono (by omega))⟩
          | true =>
            have h86 : (pb == 86) = true := by unfold fsOk at hok; simp only [hv] at hok; simpa using hok
            clear hok
            go_wp2_with (go_at_call 31; refine (rfmt_yes _ _ _ hv _).mono ?_; rintro e w1 ⟨rfl, hb1⟩; have k1 := (hb1.block wr.heap.size (by simp)).trans (heap_alloc_new wr _); obtain ⟨c0, c1, c2, _, _, _⟩ := three_cells k1; have hw1 := Lib.hid ((below_al (Below.refl wr.heap.size wr) _).trans (hb1.mono (by simp))); clear hb1 k1)
            go_ret2
            exact ⟨by rw [G.out.1, G.out.2]; rfl, hBw.trans (hw1.out.mono (by omega))⟩
        | true =>
          have hv : validB pd pb pn = true := fsOk_valid hok
          have h86 : (pb == 86) = false := by unfold fsOk at hok; rw [Bool.and_eq_true] at hok; simpa using hok.2
          have htl := txt_size hv
          have hnl := valid_name hv
          have hcc : ¬ (9223372036854775807 < (sBytes (40 :: (ps.take k).flatMap txL)).size + (txt pd pb pn).size) := by omega
          have OK := Lib.hid hok
          clear hok
          go_wp2_with (go_at_call 31; refine (rfmt_yes _ _ _ hv _).mono ?_; rintro e w1 ⟨rfl, hb1⟩; have hs1 := hb1.size; simp only [World.size_alloc] at hs1; have k1 := (hb1.block wr.heap.size (by simp)).trans (heap_alloc_new wr _); obtain ⟨c0, c1, c2, _, _, _⟩ := three_cells k1; have hw1 := Lib.hid ((below_al (Below.refl wr.heap.size wr) _).trans (hb1.mono (by simp))); clear hb1 k1)
          go_roundw
          case rel => exact ⟨k + 1, by omega, by go_num, by rw [rf_take HP.out], rf_ok I'.out.ok HP.out OK.out, I'.out.bel.trans (hw1.out.mono (by omega)), by omega⟩
          case measure => simp [intOf]; omega
    · obtain rfl : k = n := by omega
      cases hv : validB d b m with
      | false =>
        have G := Lib.hid (fs_bad (ps := ps) (r := (d, b, m)) (by have := HN.out; omega) (by rw [hv, Bool.and_false]))
        go_wp2_with (go_at_call 31; refine (rfmt_not _ _ _ hv hm _).mono ?_; rintro e w1 ⟨rfl, hb1⟩; have HB1 := Lib.hid hb1; clear hb1)
        go_ret2
        exact ⟨by rw [G.out.1, G.out.2]; rfl, hBw.trans (HB1.out.mono (by omega))⟩
      | true =>
        have htl := txt_size hv
        have hnl := valid_name hv
        have hcc : ¬ (9223372036854775807 < (sBytes (40 :: (ps.take k).flatMap txL)).size + 1) := by omega
        have hcd : ¬ (9223372036854775807 < (sBytes (40 :: (ps.take k).flatMap txL)).size + 1 + (txt d b m).size) := by omega
        go_wp2_with (go_at_call 31; refine (rfmt_yes _ _ _ hv _).mono ?_; rintro e w1 ⟨rfl, hb1⟩; have HB1 := Lib.hid hb1; clear hb1)
        go_ret2
        have G := fs_ok (ps := ps) (r := (d, b, m)) (by have := HN.out; omega) (by have := I'.out.ok; rw [List.take_of_length_le (by have := HN.out; omega)] at this; rw [this, hv]; rfl)
        exact ⟨by rw [G.1, G.2, ← rf_end (r := (d, b, m)) HN.out]; rfl, hBw.trans (HB1.out.mono (by omega))⟩

theorem rfsig_any (A : Option Addr) (n c : Nat) (ps : List Ty) (d b : Int) (m : ByteArray) (w : World) (hn : ps.length = n) (hty : Tys w w.heap.size A ps) (hnm : ∀ p ∈ ps, p.2.2.size ≤ 9223372036854775807) (hm : m.size ≤ 9223372036854775807) :
    Calls Tryd.prog 47 #[.agg #[.slice A n c, .int .i64 d, .int .u8 b, .string m]] w fun e w' => e = .returned (.tuple #[.string (fsS ps (d, b, m)), .int .i64 (fsE ps (d, b, m))]) ∧ Below w.heap.size w w' := by
  by_cases h16 : n ≤ 16
  · exact rfsig_few A n c ps d b m w hn h16 hty hnm hm
  · exact rfsig_many A n c ps d b m w hn (by omega)

end Go.Proofs.YtfafmanjgillcaaDoor
