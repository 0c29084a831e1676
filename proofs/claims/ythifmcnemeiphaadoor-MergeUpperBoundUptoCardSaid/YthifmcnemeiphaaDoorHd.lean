/- Layer 16: finder. -/
import Derived.Test.YthifmcnemeiphaaDoorHc
namespace Go.Proofs.YthifmcnemeiphaaDoor
open Go.ChangeShapes Go.WideShapes Go.ChangeAt Go.RowKit Go.PlainAid Go.Maps
set_option linter.unusedSimpArgs false
set_option linter.unusedVariables false

/-- F finds names in L, in every world that comes out of w -/
def Fd (L : List CI) (F : Value) (w : World) : Prop :=
  ∃ k b, F = .func (.func k) #[] #[.pointer (some ⟨b, 0, none⟩)] ∧ Enters Tryd.prog k ∧ ∀ (s : ByteArray) (W : World), s.size ≤ 9223372036854775807 → Below w.heap.size w W → Calls Tryd.prog k #[.string s, .pointer (some ⟨b, 0, none⟩)] W (FindRet L s W)
theorem Fd.up {L : List CI} {F : Value} {w w' : World} (h : Fd L F w) (hb : Below w.heap.size w w') : Fd L F w' := by
  obtain ⟨k, b, h1, h2, h3⟩ := h
  exact ⟨k, b, h1, h2, fun s W hs hW => h3 s W hs (below_on hb hW)⟩
def FinderRet (L : List CI) (w : World) (e : Ending) (w' : World) : Prop := ∃ F, e = .returned F ∧ Fd L F w' ∧ Below w.heap.size w w'
theorem cells_one {W : World} {B : Nat} {x : Value} {t : TypeId} (h : W.heap[B]? = some (.cells #[x] t)) : W.cell? ⟨B, 0, none⟩ = some x := by simp [World.cell?, h]
theorem fd_short {A : Option Addr} {n c : Nat} {L : List CI} {w : World} (hn : L.length = n) (hc : n ≤ 9223372036854775807) (h : CIs w w.heap.size A L) :
    FinderRet L w (.returned (.func (.func 87) #[] #[.pointer (some ⟨w.heap.size, 0, none⟩)])) (w.alloc (.cells #[.slice A n c] 22)) := by
  have hb := below_al (Below.refl w.heap.size w) (.cells #[.slice A n c] 22)
  refine ⟨_, rfl, ⟨87, w.heap.size, rfl, enters_of Tryd.func87 (by kernel_rfl) rfl, fun s W hs hW => ?_⟩, hb⟩
  refine find1_any A n c w.heap.size L s W ?_ hn hc ((h.up hb).up hW)
  exact cells_one (first_box hW)
structure FnInv (w wr : World) (A : Option Addr) (n c : Nat) (L : List CI) (k : Nat) : Prop where
  idx : Idx wr (w.heap.size + 1) k (L.take k)
  box : wr.heap[w.heap.size]? = some (.cells #[.slice A n c] 22)
  mbox : wr.heap[w.heap.size + 1 + 1]? = some (.cells #[.map (some (w.heap.size + 1))] 88)
  bel : Below w.heap.size w wr
theorem FnInv.skip {w wr : World} {A : Option Addr} {n c k : Nat} {L : List CI} (I : FnInv w wr A n c L k) (hk : k < L.length) (hf : fB (L.take k) L[k].nm = true) (o : Obj) : FnInv w (wr.alloc o) A n c L (k + 1) :=
  ⟨((I.idx.skip hk hf).alloc o).more (Nat.le_succ k), laid_old I.box, laid_old I.mbox, below_al I.bel o⟩
theorem FnInv.put {w wr w1 : World} {A : Option Addr} {n c k : Nat} {L : List CI} (I : FnInv w wr A n c L k) {o : Obj} (h1 : Idx w1 (w.heap.size + 1) (k + 1) (L.take (k + 1))) (hg : (wr.alloc o).grownBy w1 (some (w.heap.size + 1))) : FnInv w w1 A n c L (k + 1) := by
  have hl := lt_heap I.box
  have hm := lt_heap I.mbox
  refine ⟨h1, ?_, ?_, ?_⟩
  · exact (hg.block w.heap.size (by simp; omega) (fun e => by injection e with e; omega)).trans (laid_old I.box)
  · exact (hg.block (w.heap.size + 1 + 1) (by simp; omega) (fun e => by injection e with e; omega)).trans (laid_old I.mbox)
  · exact (below_al I.bel o).grown hg (by simp only [World.size_alloc]; omega) (fun q hq => by injection hq with hq; omega)
theorem FnInv.done {w wr : World} {A : Option Addr} {n c k : Nat} {L : List CI} (I : FnInv w wr A n c L k) (hk : L.length = k) : FinderRet L w (.returned (.func (.func 88) #[] #[.pointer (some ⟨w.heap.size + 1 + 1, 0, none⟩)])) wr := by
  refine ⟨_, rfl, ⟨88, w.heap.size + 1 + 1, rfl, enters_of Tryd.func88 (by kernel_rfl) rfl, fun s W hs hW => ?_⟩, I.bel⟩
  have h1 := I.idx
  rw [List.take_of_length_le (by omega)] at h1
  exact find2_any _ _ k L s W hs (cells_one ((hW.block _ (lt_heap I.mbox)).trans I.mbox)) (h1.below hW)
theorem nat_wf {k : Nat} (h : k ≤ 1000000) : (Lit.int .i64 (k : Int)).wf = true := by
  simp only [Lit.wf, Bool.and_eq_true, decide_eq_true_eq]
  rw [show IntKind.i64.min = -9223372036854775808 from by rfl, show IntKind.i64.max = 9223372036854775807 from by rfl]
  omega
theorem fn_start (w : World) (A : Option Addr) (n c : Nat) (L : List CI) : FnInv w (((w.alloc (.cells #[.slice A n c] 22)).alloc (.map #[] 0)).alloc (.cells #[.map (some (w.heap.size + 1))] 88)) A n c L 0 := by
  have e : (w.alloc (.cells #[.slice A n c] 22)).heap.size = w.heap.size + 1 := by simp
  have h1 := idx_made (w.alloc (.cells #[.slice A n c] 22))
  rw [e] at h1
  have h2 := World.alloc_heap_new ((w.alloc (.cells #[.slice A n c] 22)).alloc (.map #[] 0)) (.cells #[.map (some (w.heap.size + 1))] 88)
  rw [World.size_alloc, e] at h2
  exact ⟨h1.alloc _, laid_old (laid_old (World.alloc_heap_new w _)), h2, below_al (below_al (below_al (Below.refl _ _) _) _) _⟩
theorem made_hint (x : Int) (w : World) : (Instr.makeMap 88 (some (.int .i64 x))).run Tryd.prog w = .ok (.map (some w.heap.size)) (w.alloc (.map #[] 0)) := by
  simp [Instr.makeMap, run_underlying Tryd.underlying88, asInt, asIntOf, Result.andThen]
set_option maxRecDepth 100000 in
set_option maxHeartbeats 2000000 in
theorem finder_any (A : Option Addr) (n c : Nat) (L : List CI) (w : World) (hn : L.length = n) (hc : n ≤ 1000000) (h : CIs w w.heap.size A L) :
    Calls Tryd.prog 55 #[.slice A n c] w (FinderRet L w) := by
  have hmf : ∀ (fn : Fn) (first cap : Array Value) (w : World), (Instr.makeFunc fn first cap).run Tryd.prog w = .ok (.func fn first cap) w := fun _ _ _ _ => rfl
  have hmm := made_hint
  by_cases h32 : n ≤ 32
  · have HS := Lib.hid (fd_short (c := c) hn (by omega) h)
    clear h hn
    go_enter Tryd.func55, Tryd.ntmps55
    go_wp2
    go_ret
    exact HS.out
  · have HN := Lib.hid hn
    have HL := Lib.hid h
    clear h hn
    have hle : decide ((n : Int) ≤ 32) = false := decide_eq_false (by omega)
    go_enter Tryd.func55, Tryd.ntmps55
    go_wp2
    go_loopw [17] (fun i wr => ∃ k : Nat, k ≤ n ∧ i = .int .i64 k ∧ FnInv w wr A n c L k) (fun i _ => n - (intOf i).toNat)
    case atStart =>
      exact ⟨0, Nat.zero_le _, rfl, fn_start w A n c L⟩
    case round =>
      obtain ⟨k, hk, rfl, I⟩ := hrel
      have I' := Lib.hid I
      have b0 := cells_one I.mbox
      have hm := lt_heap I.mbox
      have b0' : (wr.alloc (.cells #[.string ⟨#[]⟩] 0)).heap.size = wr.heap.size + 1 := by simp
      clear b0'
      by_cases hlt : k < n
      · have hkl : k < L.length := by rw [HN.out]; exact hlt
        obtain ⟨g, o, rfl, hg, hok, c0, c1, c2, c3⟩ := (HL.out.below I.bel).at hkl
        have hz : L[k].nm.size ≤ 9223372036854775807 := hok.1
        clear hok
        have hlk := (I.idx.alloc (.cells #[.string L[k].nm, .string L[k].su, .slice L[k].iA L[k].n L[k].c, .bool L[k].isI] 30)).look hz
        clear I
        cases hf : fB (L.take k) L[k].nm with
        | true =>
          rw [hf] at hlk
          have J := Lib.hid (I'.out.skip hkl hf (.cells #[.string L[k].nm, .string L[k].su, .slice L[k].iA L[k].n L[k].c, .bool L[k].isI] 30))
          clear hf
          go_wp2
          go_roundw
          case rel => exact ⟨k + 1, by omega, by go_num, J.out⟩
          case measure => simp [intOf]; omega
        | false =>
          rw [hf] at hlk
          obtain ⟨D, hD1, hD2, hD3⟩ := I'.out.idx.alloc (.cells #[.string L[k].nm, .string L[k].su, .slice L[k].iA L[k].n L[k].c, .bool L[k].isI] 30)
          have HD2 := Lib.hid hD2
          have HD3 := Lib.hid hD3
          have HF := Lib.hid hf
          have hwf : (Lit.int .i64 (k : Int)).wf = true := nat_wf (by omega)
          have HK := Lib.hid hkl
          clear hD2 hD3 hf
          go_wp2_with (at_mapUpdate; refine wpList_mapUpdate_own _ rfl _ _ _ 88 rfl 9 3 (Maps.string_keyed Tryd.underlying9) Tryd.underlying88 _ (w.heap.size + 1) k D rfl hD1 (by unfold maxLen; omega) _ _ _ rfl rfl (str_key hz) _ [] (plainElem_int Tryd.underlying3 hwf) ?_; intro w1 hown1 hgrow1)
          have J := Lib.hid (I'.out.put (Idx.put HK.out HD2.out HD3.out HF.out hown1) hgrow1)
          have hs1 := hgrow1.size
          clear hown1 hgrow1 hD1
          go_wp2
          go_roundw
          case rel => exact ⟨k + 1, by omega, by go_num, J.out⟩
          case measure => simp [intOf]; omega
      · obtain rfl : k = n := by omega
        have J := Lib.hid (I'.out.done HN.out)
        clear I
        go_wp2
        go_ret
        exact J.out
end Go.Proofs.YthifmcnemeiphaaDoor
