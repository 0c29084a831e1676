import Derived.Test.YtfcefeepkpkcmaaDoorPcB
import Derived.Test.YtfcefeepkpkcmaaDoorPcA
import Derived.Test.YtfcefeepkpkcmaaDoorPoolSame
import Derived.KernelRfl
import Derived.Test.YtfcefeepkpkcmaaDoorPoolAddRef

/- PcLaw -/
/- Layer 6: few, the chapter's examples, PoolcodeEncode, PoolcodeDecode. -/
namespace Go.Proofs.YtfcefeepkpkcmaaDoor
open Go.ChangeShapes Go.WideShapes Go.ChangeAt Go.RowKit Go.PlainAid
set_option linter.unusedSimpArgs false
set_option linter.unusedVariables false

theorem dec_any (s : ByteArray) (p : Int) (hs : s.size ≤ 2000000) (w : World) : Calls Tryd.prog 44 #[.string s, .int .i64 p] w (DeRet w s p) := by
  by_cases hp : 0 ≤ p ∧ p ≤ s.size
  · by_cases h2 : unsE s p 2 = 0
    · exact dec_in s p hs hp h2 w
    · exact dec_cut s p hs hp h2 w
  · exact dec_out s p hp w
theorem rdec_any (s : ByteArray) (p : Int) (hs : s.size ≤ 2000000) (w : World) : Calls Tryd.prog 45 #[.string s, .int .i64 p] w (DeRet w s p) := by
  by_cases hp : 0 ≤ p ∧ p ≤ s.size
  · by_cases h2 : unsE s p 2 = 0
    · exact rdec_in s p hs hp h2 w
    · exact rdec_cut s p hs hp h2 w
  · exact rdec_out s p hp w

/-- the bytes of the first k texts -/
def tS (L : List Cn) : Nat → Nat
  | 0 => 0
  | k + 1 => tS L k + (match L[k]? with | some p => p.s.size | none => 0)
theorem tS_succ {L : List Cn} {k : Nat} {p : Cn} (h : L[k]? = some p) : tS L (k + 1) = tS L k + p.s.size := by
  show tS L k + (match L[k]? with | some p => p.s.size | none => 0) = _
  rw [h]
def All3 (L : List Cn) : Prop := L.length ≤ 2000 ∧ tS L L.length ≤ 100000 ∧ ∀ c ∈ L, c.s.size ≤ 3000
def FewRet (L : List Cn) (w : World) (e : Ending) (w' : World) : Prop := ∃ b, e = .returned (.bool b) ∧ (b = true → All3 L) ∧ Below w.heap.size w w'
theorem few_no {L : List Cn} {w w' : World} (h : Below w.heap.size w w') : FewRet L w (.returned (.bool false)) w' := ⟨false, rfl, fun h => by (cases h), h⟩
theorem few_yes {L : List Cn} {w w' : World} {n : Nat} (hn : L.length = n) (h2 : (n : Int) ≤ 2000) (hall : ∀ j c, j < n → L[j]? = some c → c.s.size ≤ 3000) (h : Below w.heap.size w w') : FewRet L w (.returned (.bool (decide ((tS L n : Int) ≤ 100000)))) w' :=
  ⟨_, rfl, fun hd => by
    have hd := of_decide_eq_true hd
    refine ⟨by omega, by rw [hn]; omega, fun c hc => ?_⟩
    obtain ⟨j, hj, hjc⟩ := List.getElem_of_mem hc
    exact hall j c (by omega) (by rw [List.getElem?_eq_getElem hj, hjc]), h⟩
theorem few_next {L : List Cn} {k : Nat} {p : Cn} (hk : ∀ j c, j < k → L[j]? = some c → c.s.size ≤ 3000) (hp : L[k]? = some p) (h3 : (p.s.size : Int) ≤ 3000) : ∀ j c, j < k + 1 → L[j]? = some c → c.s.size ≤ 3000 := fun j c hj hc => by
  rcases (by omega : j < k ∨ j = k) with h | rfl
  · exact hk j c h hc
  · rw [hp] at hc; cases hc; omega
set_option maxRecDepth 100000 in
set_option maxHeartbeats 1000000 in
theorem few_any {w0 : World} {A : Option Addr} {n c : Nat} {L : List Cn} (hn : L.length = n) (hs : ∀ c ∈ L, c.s.size ≤ 9223372036854775807) (hp : Pool w0 w0.heap.size A L) (w : World) (hb : Below w0.heap.size w0 w) :
    Calls Tryd.prog 40 #[.slice A n c] w (FewRet L w) := by
  have HP := Lib.hid (hp.up hb)
  have HN := Lib.hid hn
  clear hp hb hn
  have hB : Below w.heap.size w w := Below.refl _ _
  go_enter Tryd.func40, Tryd.ntmps40
  go_wp2
  go_loopw [3, 4] (fun a i wr => ∃ k z q : Nat, k ≤ n ∧ k ≤ 2001 ∧ z = tS L k ∧ z ≤ 3000 * k ∧ a = .int .i64 z ∧ i = .int .i64 k ∧ (∀ j c, j < k → L[j]? = some c → c.s.size ≤ 3000) ∧ wr = w.drewN q) (fun _ i _ => n - (intOf i).toNat)
  case atStart => exact ⟨0, 0, 0, Nat.zero_le _, Nat.zero_le _, rfl, Nat.zero_le _, rfl, rfl, fun j c hj => absurd hj (Nat.not_lt_zero _), rfl⟩
  case round =>
    obtain ⟨k, z, q, hk, hk2, hzt, hz, rfl, rfl, hall, rfl⟩ := hrel
    have HA := Lib.hid hall
    have HZ := Lib.hid hzt
    clear hall hzt
    by_cases hlt : k < n
    · by_cases hl2 : k < 2001
      · have hp : ∃ p, L[k]? = some p := ⟨L[k]'(by rw [HN.out]; exact hlt), List.getElem?_eq_getElem _⟩
        obtain ⟨p, hp⟩ := hp
        have hps := hs p (List.mem_of_getElem? hp)
        rcases HP.out with h0 | ⟨b, o, rfl, hg, hcell⟩
        · rw [h0] at hp; cases hp
        · obtain ⟨a0, a1, a2, a3, a4⟩ := hcell k _ hp
          have hk0 : (0 : Int) ≤ (k : Int) := by omega
          have hk1 : (k : Int) < (n : Int) := by omega
          have HPK := Lib.hid hp
          clear hcell hp a0 a2 a3 a4
          by_cases h3 : 3000 < p.s.size
          · go_wp2
            go_ret
            exact few_no (below_dr hB _)
          · go_wp2
            have h3' : (p.s.size : Int) ≤ 3000 := by omega
            go_roundw
            case rel => exact ⟨k + 1, z + p.s.size, _, by omega, by omega, by rw [tS_succ HPK.out, HZ.out], by omega, by congr 1, rfl, few_next HA.out HPK.out h3', rfl⟩
            case measure => simp [intOf]; omega
      · go_wp2
        go_ret
        exact few_no (below_dr hB _)
    · obtain rfl : k = n := by omega
      rcases (by omega : (k : Int) ≤ 2000 ∨ (2000 : Int) < k) with h2 | h2
      · go_wp2
        go_ret
        rw [HZ.out]
        exact few_yes HN.out h2 HA.out (below_dr hB _)
      · go_wp2
        go_ret
        exact few_no (below_dr hB _)

def sX : ByteArray := ⟨#[0, 1, 1, 0, 2, 97, 98]⟩
def LX : List Cn := [cu ⟨#[97, 98]⟩]
theorem ax_1 : encS [] = ⟨#[0, 0]⟩ ∧ chE [] = 0 := ⟨by kernel_rfl, by kernel_rfl⟩
theorem ax_2 : encS LX = sX ∧ chE LX = 0 := ⟨by kernel_rfl, by kernel_rfl⟩
theorem ax_3 : de (⟨#[120]⟩ ++ sX ++ ⟨#[121]⟩) 1 = (LX, 8, 0) := by kernel_rfl
theorem ax_4 : de ⟨#[0, 1, 2]⟩ 0 = ([], 0, 11) := by kernel_rfl
theorem ax_5 : de ⟨#[0, 1]⟩ 0 = ([], 0, 3) := by kernel_rfl

end Go.Proofs.YtfcefeepkpkcmaaDoor

/- PcAwake -/
/- Layer 6: the chapter's examples. -/
namespace Go.Proofs.YtfcefeepkpkcmaaDoor
open Go.ChangeShapes Go.WideShapes Go.ChangeAt Go.RowKit Go.PlainAid
set_option linter.unusedSimpArgs false
set_option linter.unusedVariables false

theorem lx_short : Short LX := by
  intro c hc
  simp [LX] at hc
  rcases hc with rfl
  decide
theorem ax1 (w : World) : Calls Tryd.prog 42 #[.slice none 0 0] w fun e w' => e = .returned (.tuple #[.string ⟨#[0, 0]⟩, .int .i64 0]) ∧ Below w.heap.size w w' := by
  have h := enc_any (L := []) (A := none) (n := 0) (c := 0) (fun c hc => by cases hc) rfl (by omega) (Pool.nil w _ _) w (Below.refl _ _)
  rwa [ax_1.1, ax_1.2] at h
theorem ax2 {w0 : World} {A : Option Addr} {c : Nat} (hp : Pool w0 w0.heap.size A LX) (w : World) (hb : Below w0.heap.size w0 w) : Calls Tryd.prog 42 #[.slice A 1 c] w fun e w' => e = .returned (.tuple #[.string sX, .int .i64 0]) ∧ Below w.heap.size w w' := by
  have h := enc_any (L := LX) (A := A) (n := 1) (c := c) lx_short rfl (by omega) hp w hb
  rwa [ax_2.1, ax_2.2] at h
theorem de_all {s : ByteArray} {p : Int} {L : List Cn} {a e : Int} (h : de s p = (L, a, e)) : deL s p = L ∧ deN s p = a ∧ deE s p = e := by unfold deL deN deE; rw [h]; exact ⟨rfl, rfl, rfl⟩
theorem ax3 (w : World) : Calls Tryd.prog 44 #[.string (⟨#[120]⟩ ++ sX ++ ⟨#[121]⟩), .int .i64 1] w fun e w' => ∃ A c, e = .returned (.tuple #[.slice A 1 c, .int .i64 8, .int .i64 0]) ∧ Pool w' w'.heap.size A LX ∧ Below w.heap.size w w' := by
  refine (dec_any _ 1 (by decide) w).mono ?_
  rintro e w1 ⟨A, n, c, rfl, hn, hc, hp, hb⟩
  have g := de_all ax_3
  rw [g.1] at hn hp
  rw [g.2.1, g.2.2]
  obtain rfl : n = 1 := hn.symm
  exact ⟨A, c, rfl, hp, hb⟩
theorem ax4 (w : World) : Calls Tryd.prog 44 #[.string ⟨#[0, 1, 2]⟩, .int .i64 0] w fun e w' => ∃ A n c, e = .returned (.tuple #[.slice A n c, .int .i64 0, .int .i64 11]) ∧ Below w.heap.size w w' := by
  refine (dec_any _ 0 (by decide) w).mono ?_
  rintro e w1 ⟨A, n, c, rfl, hn, hc, hp, hb⟩
  have g := de_all ax_4
  rw [g.2.1, g.2.2]
  exact ⟨A, n, c, rfl, hb⟩
theorem ax5 (w : World) : Calls Tryd.prog 44 #[.string ⟨#[0, 1]⟩, .int .i64 0] w fun e w' => ∃ A n c, e = .returned (.tuple #[.slice A n c, .int .i64 0, .int .i64 3]) ∧ Below w.heap.size w w' := by
  refine (dec_any _ 0 (by decide) w).mono ?_
  rintro e w1 ⟨A, n, c, rfl, hn, hc, hp, hb⟩
  have g := de_all ax_5
  rw [g.2.1, g.2.2]
  exact ⟨A, n, c, rfl, hb⟩
theorem lx_new {W : World} {t : TypeId} : Pool (W.alloc (.cells #[.int .i64 1, .string ⟨#[97, 98]⟩, .int .i64 0, .int .i64 0, .int .i64 0] t)) (W.alloc (.cells #[.int .i64 1, .string ⟨#[97, 98]⟩, .int .i64 0, .int .i64 0, .int .i64 0] t)).heap.size (some ⟨W.heap.size, 0, none⟩) LX := by
  refine Or.inr ⟨W.heap.size, 0, rfl, by simp, fun i c hi => ?_⟩
  rcases i with _ | i
  · obtain rfl : cu ⟨#[97, 98]⟩ = c := by simpa [LX] using hi
    have h := World.alloc_heap_new W (.cells #[.int .i64 1, .string ⟨#[97, 98]⟩, .int .i64 0, .int .i64 0, .int .i64 0] t)
    have g := five_cells h
    exact ⟨g.1, g.2.1, g.2.2.1, g.2.2.2.1, g.2.2.2.2.1⟩
  · simp [LX] at hi

theorem zx : ∃ z : ByteArray, z = sX ∧ z.toList = [0, 1, 1, 0, 2, 97, 98] ∧ z.size = 7 := ⟨sX, rfl, by kernel_rfl, by kernel_rfl⟩
theorem atp {W : World} {A : Option Addr} (h : Pool W W.heap.size A LX) : ∃ g o, A = some ⟨g, o, none⟩ ∧ W.cell? ⟨g, o + 1, none⟩ = some (.string ⟨#[97, 98]⟩) := by
  rcases h with h | ⟨g, o, hA, hg, hc⟩
  · cases h
  · have := (hc 0 (cu ⟨#[97, 98]⟩) rfl).2.1
    exact ⟨g, o, hA, by simpa using this⟩
set_option maxRecDepth 100000 in
set_option maxHeartbeats 1000000 in
theorem awake6_any (w : World) : Calls Tryd.prog 41 #[] w fun e w' => e = .returned (.bool true) ∧ Below w.heap.size w w' := by
  have hB : Below w.heap.size w w := Below.refl _ _
  obtain ⟨z, hzx, hzq, hzs⟩ := zx
  have ax2' := @ax2
  have ax3' := ax3
  rw [← hzx] at ax2' ax3'
  clear hzx
  have AX2 := Lib.hid (fun (w0 : World) (A : Option Addr) (c : Nat) => @ax2' w0 A c)
  have AX3 := Lib.hid ax3'
  clear ax2' ax3'
  go_enter Tryd.func41, Tryd.ntmps41
  go_upto_region 2 with (
    (go_at_call 42; refine (ax1 _).mono ?_; rintro e w1 ⟨rfl, hb1⟩; replace hB := below_on (w := w) (by repeat (first | with_reducible exact hB | with_reducible exact Below.refl _ _ | with_reducible refine below_al ?_ _ | with_reducible refine below_st ?_ (by first | exact Nat.le_refl _ | exact Nat.le_add_right _ _ | (simp; omega)) _)) hb1; clear hb1))
  go_upto_region 3 with (
    (go_at_call 42; refine (AX2.out _ _ _ lx_new _ (Below.refl _ _)).mono ?_; rintro e w2 ⟨rfl, hb1⟩; replace hB := below_on (w := w) (by repeat (first | with_reducible exact hB | with_reducible exact Below.refl _ _ | with_reducible refine below_al ?_ _ | with_reducible refine below_st ?_ (by first | exact Nat.le_refl _ | exact Nat.le_add_right _ _ | (simp; omega)) _)) hb1; clear hb1))
  go_upto_region 4 with (
    (go_at_call 44; refine (AX3.out _).mono ?_; rintro e w3 ⟨A1, c1, rfl, hp1, hb1⟩; have HP := Lib.hid hp1; replace hB := below_on (w := w) (by repeat (first | with_reducible exact hB | with_reducible exact Below.refl _ _ | with_reducible refine below_al ?_ _ | with_reducible refine below_st ?_ (by first | exact Nat.le_refl _ | exact Nat.le_add_right _ _ | (simp; omega)) _)) hb1; clear hb1 hp1))
  go_upto_region 5 with (
    (go_at_call 44; refine (ax4 _).mono ?_; rintro e w4 ⟨A2, n2, c2, rfl, hb1⟩; replace HP := Lib.hid (HP.out.up hb1); replace hB := below_on (w := w) (by repeat (first | with_reducible exact hB | with_reducible exact Below.refl _ _ | with_reducible refine below_al ?_ _ | with_reducible refine below_st ?_ (by first | exact Nat.le_refl _ | exact Nat.le_add_right _ _ | (simp; omega)) _)) hb1; clear hb1))
  go_upto_region 6 with (
    (go_at_call 44; refine (ax5 _).mono ?_; rintro e w5 ⟨A3, n3, c3, rfl, hb1⟩; replace HP := Lib.hid (HP.out.up hb1); replace hB := below_on (w := w) (by repeat (first | with_reducible exact hB | with_reducible exact Below.refl _ _ | with_reducible refine below_al ?_ _ | with_reducible refine below_st ?_ (by first | exact Nat.le_refl _ | exact Nat.le_add_right _ _ | (simp; omega)) _)) hb1; clear hb1))
  obtain ⟨g, o, rfl, hc⟩ := atp HP.out
  clear AX2 AX3
  go_wp2
  go_ret
  exact ⟨rfl, hB⟩

end Go.Proofs.YtfcefeepkpkcmaaDoor

/- PcLawEnc -/
/- Layer 6: PoolcodeEncode, PoolcodeDecode. -/
namespace Go.Proofs.YtfcefeepkpkcmaaDoor
open Go.ChangeShapes Go.WideShapes Go.ChangeAt Go.RowKit Go.PlainAid
set_option linter.unusedSimpArgs false
set_option linter.unusedVariables false

set_option maxHeartbeats 1000000 in
theorem same6_any {w0 : World} {A A' : Option Addr} {n c c' : Nat} {L : List Cn} (hn : L.length = n) (hN : n ≤ 100000) (hp : Pool w0 w0.heap.size A L) (hp' : Pool w0 w0.heap.size A' L) (w : World) (hb : Below w0.heap.size w0 w) :
    Calls Tryd.prog 46 #[.slice A n c, .slice A' n c'] w fun e w' => e = .returned (.bool true) ∧ Below w.heap.size w w' := by
  have hB : Below w.heap.size w w := Below.refl _ _
  have HP := Lib.hid (hp.up hb)
  have HP' := Lib.hid (hp'.up hb)
  have HN := Lib.hid hn
  clear hn hp hb hp'
  go_enter Tryd.func46, Tryd.ntmps46
  go_wp2
  go_loopw [5] (fun i wr => ∃ k q : Nat, k ≤ n ∧ i = .int .i64 k ∧ wr = w.drewN q) (fun i _ => n - (intOf i).toNat)
  case atStart => exact ⟨0, 0, Nat.zero_le _, rfl, rfl⟩
  case round =>
    obtain ⟨k, q, hk, rfl, rfl⟩ := hrel
    by_cases hlt : k < n
    · have hp : ∃ p, L[k]? = some p := ⟨L[k]'(by rw [HN.out]; exact hlt), List.getElem?_eq_getElem _⟩
      obtain ⟨p, hp⟩ := hp
      rcases HP.out with h0 | ⟨b, o, rfl, hg, hcell⟩
      · rw [h0] at hp; cases hp
      · rcases HP'.out with h0 | ⟨b', o', rfl, hg', hcell'⟩
        · rw [h0] at hp; cases hp
        · obtain ⟨a0, a1, a2, a3, a4⟩ := hcell k _ hp
          obtain ⟨b0, b1, b2, b3, b4⟩ := hcell' k _ hp
          clear hcell hcell' hp
          have hk0 : (0 : Int) ≤ (k : Int) := by omega
          have hk1 : (k : Int) < (n : Int) := by omega
          have e1 := fun w => cn_neq p p w
          have e2 := cnQ_self p
          go_wp2
          go_quiet (fail)
          go_wp2
          go_roundw
          case rel => exact ⟨k + 1, _, by omega, by go_num, rfl⟩
          case measure => simp [intOf]; omega
    · obtain rfl : k = n := by omega
      go_wp2
      go_ret
      exact ⟨rfl, below_dr hB _⟩

theorem deL_len (s : ByteArray) (p : Int) : (deL s p).length ≤ 65535 := by
  have h0 := uns2_bd s p
  by_cases h : 0 ≤ p ∧ p ≤ s.size
  · by_cases h2 : unsE s p 2 = 0
    · by_cases h3 : dkE s (p + 2) (unsV s p 2).toNat = 0
      · by_cases h4 : chE (dkL s (p + 2) (unsV s p 2).toNat) = 0
        · rw [(de_5 h h2 h3 h4).1, dkL_len]; omega
        · rw [(de_4 h h2 h3 h4).1]; exact Nat.zero_le _
      · rw [(de_3 h h2 h3).1]; exact Nat.zero_le _
    · rw [(de_2 h h2).1]; exact Nat.zero_le _
  · rw [(de_1 h).1]; exact Nat.zero_le _
theorem All3.short {L : List Cn} (h : All3 L) : Short L := fun c hc => by have := h.2.2 c hc; omega
theorem Fits.few {L : List Cn} (h : Fits L) : ∀ c ∈ L, c.s.size ≤ 9223372036854775807 := fun c hc => by have := h c hc; omega

set_option maxRecDepth 100000 in
set_option maxHeartbeats 1000000 in
theorem penc_law {A : Option Addr} {n c : Nat} {L : List Cn} (hn : L.length = n) (hF : Fits L) (w : World) (hp : Pool w w.heap.size A L) :
    Calls Tryd.prog 8 #[.slice A n c] w fun e w' => e = .returned (.bool true) ∧ Below w.heap.size w w' := by
  have HP := Lib.hid hp
  have HN := Lib.hid hn
  have HF := Lib.hid hF
  clear hp hn hF
  have hB : Below w.heap.size w w := Below.refl _ _
  go_enter Tryd.func8, Tryd.ntmps8
  go_wp2_with fail
  refine (few_any HN.out HF.out.few HP.out _ (Below.refl _ _)).mono ?_
  rintro e w1 ⟨b, rfl, hb3, hb1⟩
  have H3 := Lib.hid hb3
  have HP1 := Lib.hid (HP.out.up hb1)
  replace hB := below_on (w := w) hB hb1
  clear hb3 hb1
  cases b with
  | false =>
    go_wp2_with (go_at_call 41; refine (awake6_any _).mono ?_; rintro e w1 ⟨rfl, hb1⟩; obtain ⟨hc1, hf1⟩ := bcell hb1; have hz1 := hb1.size; (try simp only [World.size_alloc, World.size_setCell] at hz1); (try have hza : w.heap.size < w1.heap.size := by omega); (try have hzb : w.heap.size + 1 < w1.heap.size := by omega); (try have hzc : w.heap.size + 1 + 1 < w1.heap.size := by omega); (try have hzd : wa.heap.size < w1.heap.size := by omega); (try replace hR := (hb1.block w.heap.size (by first | exact lt_heap hR | (have := lt_heap hR; simp; omega))).trans (by first | with_reducible exact hR | with_reducible exact laid_old hR)); replace hB := below_on (w := w) ((by repeat (first | with_reducible exact hB | with_reducible exact Below.refl _ _ | with_reducible refine below_al ?_ _ | with_reducible refine below_st ?_ (by first | exact Nat.le_refl _ | exact Nat.le_add_right _ _ | (simp; omega)) _))) hb1; clear hb1)
    go_ret
    exact ⟨rfl, hB⟩
  | true =>
    have H4 := Lib.hid (H3.out rfl)
    clear H3
    have hN2 : n ≤ 100000 := by have := H4.out.1; have := HN.out; omega
    go_wp2_with (first
      | (go_at_call 42; refine (enc_any H4.out.short HN.out hN2 HP1.out _ (Below.refl _ _)).mono ?_; rintro e w2 ⟨rfl, hb2⟩; replace HP1 := Lib.hid (HP1.out.up hb2); replace hB := below_on (w := w) hB hb2; clear hb2)
      | (go_at_call 43; refine (renc_any H4.out.short HN.out hN2 HP1.out _ (Below.refl _ _)).mono ?_; rintro e w3 ⟨rfl, hb2⟩; replace HP1 := Lib.hid (HP1.out.up hb2); replace hB := below_on (w := w) hB hb2; clear hb2)
      | (go_at_call 41; refine (awake6_any _).mono ?_; rintro e w1 ⟨rfl, hb1⟩; obtain ⟨hc1, hf1⟩ := bcell hb1; have hz1 := hb1.size; (try simp only [World.size_alloc, World.size_setCell] at hz1); (try have hza : w.heap.size < w1.heap.size := by omega); (try have hzb : w.heap.size + 1 < w1.heap.size := by omega); (try have hzc : w.heap.size + 1 + 1 < w1.heap.size := by omega); (try have hzd : wa.heap.size < w1.heap.size := by omega); (try replace hR := (hb1.block w.heap.size (by first | exact lt_heap hR | (have := lt_heap hR; simp; omega))).trans (by first | with_reducible exact hR | with_reducible exact laid_old hR)); replace hB := below_on (w := w) ((by repeat (first | with_reducible exact hB | with_reducible exact Below.refl _ _ | with_reducible refine below_al ?_ _ | with_reducible refine below_st ?_ (by first | exact Nat.le_refl _ | exact Nat.le_add_right _ _ | (simp; omega)) _))) hb1; clear hb1))
    go_ret
    exact ⟨rfl, hB⟩

set_option maxRecDepth 100000 in
set_option maxHeartbeats 1000000 in
theorem pdec_law (s : ByteArray) (p : Int) (hs : s.size ≤ 140737488351232) (w : World) :
    Calls Tryd.prog 9 #[.string s, .int .i64 p] w fun e w' => e = .returned (.bool true) ∧ Below w.heap.size w w' := by
  have hB : Below w.heap.size w w := Below.refl _ _
  go_enter Tryd.func9, Tryd.ntmps9
  by_cases h5 : 5000 < s.size
  · go_wp2_with (go_at_call 41; refine (awake6_any _).mono ?_; rintro e w1 ⟨rfl, hb1⟩; obtain ⟨hc1, hf1⟩ := bcell hb1; have hz1 := hb1.size; (try simp only [World.size_alloc, World.size_setCell] at hz1); (try have hza : w.heap.size < w1.heap.size := by omega); (try have hzb : w.heap.size + 1 < w1.heap.size := by omega); (try have hzc : w.heap.size + 1 + 1 < w1.heap.size := by omega); (try have hzd : wa.heap.size < w1.heap.size := by omega); (try replace hR := (hb1.block w.heap.size (by first | exact lt_heap hR | (have := lt_heap hR; simp; omega))).trans (by first | with_reducible exact hR | with_reducible exact laid_old hR)); replace hB := below_on (w := w) ((by repeat (first | with_reducible exact hB | with_reducible exact Below.refl _ _ | with_reducible refine below_al ?_ _ | with_reducible refine below_st ?_ (by first | exact Nat.le_refl _ | exact Nat.le_add_right _ _ | (simp; omega)) _))) hb1; clear hb1)
    go_ret
    exact ⟨rfl, hB⟩
  · have h2 : s.size ≤ 2000000 := by omega
    go_wp2_with fail
    refine (dec_any s p h2 _).mono ?_
    rintro e w1 ⟨A1, n1, c1, rfl, hn1, hc1, hp1, hb1⟩
    have HP1 := Lib.hid hp1
    have HN1 := Lib.hid hn1
    replace hB := below_on (w := w) hB hb1
    clear hb1 hp1 hn1
    go_wp2_with fail
    refine (rdec_any s p h2 _).mono ?_
    rintro e w2 ⟨A2, n2, c2, rfl, hn2, hc2, hp2, hb2⟩
    obtain rfl : n2 = n1 := hn2.symm.trans HN1.out
    have hN1 : n2 ≤ 100000 := by have := deL_len s p; have := HN1.out; omega
    have HP2 := Lib.hid hp2
    replace HP1 := Lib.hid (HP1.out.up hb2)
    replace hB := below_on (w := w) hB hb2
    clear hb2 hp2 hn2
    go_wp2_with (first
      | (go_at_call 41; refine (awake6_any _).mono ?_; rintro e w3 ⟨rfl, hb3⟩; replace HP1 := Lib.hid (HP1.out.up hb3); replace HP2 := Lib.hid (HP2.out.up hb3); replace hB := below_on (w := w) hB hb3; clear hb3)
      | (go_at_call 46; refine (same6_any HN1.out hN1 HP1.out HP2.out _ (Below.refl _ _)).mono ?_; rintro e w4 ⟨rfl, hb3⟩; replace HP1 := Lib.hid (HP1.out.up hb3); replace HP2 := Lib.hid (HP2.out.up hb3); replace hB := below_on (w := w) hB hb3; clear hb3))
    go_ret
    exact ⟨rfl, hB⟩

end Go.Proofs.YtfcefeepkpkcmaaDoor
