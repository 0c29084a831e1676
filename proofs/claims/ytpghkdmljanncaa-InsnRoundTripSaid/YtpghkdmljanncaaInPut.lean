/- Layer 8: a builder that leaves other variables alone; put. -/
import Derived.Test.YtpghkdmljanncaaBuild
import Derived.Test.YtpghkdmljanncaaOctStr
import Derived.Test.YtpghkdmljanncaaOctRound
import Derived.Test.YtpghkdmljanncaaRow
namespace Go.Proofs.Ytpghkdmljanncaa
open Go.ChangeShapes Go.WideShapes Go.ChangeAt Go.RowKit Go.PlainAid
set_option linter.unusedSimpArgs false
set_option linter.unusedVariables false

/-- every other variable, of a type of its own, is as it was -/
def Apart (b : Nat) (w w' : World) : Prop := ∀ k cs t fr, k ≠ b → t ≠ 5 → w.heap[k]? = some (.cells cs t fr) → w'.heap[k]? = some (.cells cs t fr)
theorem Apart.trans {b : Nat} {w w1 w2 : World} (h : Apart b w w1) (k : Apart b w1 w2) : Apart b w w2 := fun i cs t fr hi ht hh => k i cs t fr hi ht (h i cs t fr hi ht hh)
theorem apart_below {b : Nat} {w w1 : World} (h : Below w.heap.size w w1) : Apart b w w1 := fun k cs t fr _ _ hh => (h.block k (lt_heap hh)).trans hh
theorem own_not {w : World} {B e n k t : Nat} {v : Value} {xs : List Value} {cs : Array Value} {fr : Nat × Nat} (h : w.ownsRow B e 1 v n xs) (hk : w.heap[k]? = some (.cells cs t fr)) (ht : t ≠ e) : v.ownBlock ≠ some k := by
  intro hv
  rcases h.2 with ⟨rfl, _⟩ | ⟨g, cap, cur, rfl, _, hg, _⟩
  · cases hv
  · have : g = k := Option.some.inj hv
    subst this
    rw [hg] at hk
    have := Option.some.inj hk
    injection this with _ h2 _
    exact ht h2.symm
theorem built_keep {B b : Nat} {p : Value} {bs : List Value} {w w' : World} (h : Lib.BuilderAt 76 5 B b p bs w) (hb : Below w.heap.size w w') : Lib.BuilderAt 76 5 B b p bs w' := by
  have hlt := h.lt
  obtain ⟨h1, v, h2, h3, h4⟩ := h
  exact ⟨h1, v, (hb.block b hlt).trans h2, own_below h3 hb, h4⟩
theorem isb_keep {B b : Nat} {bs : List Value} {w w' : World} (h : Lib.IsBuilder 76 5 B b bs w) (hb : Below w.heap.size w w') : Lib.IsBuilder 76 5 B b bs w' := h.imp (fun h => built_keep h hb) (fun h => built_keep h hb)

theorem apart_set {b j : Nat} {w : World} (u : Value) : Apart b w (w.setCell ⟨b, j, none⟩ u) := fun k cs t fr hk _ hh => by
  rw [Below.heap_setCell _ _ _ _ hk]; exact hh
theorem bcheckA_any (B b : Nat) (bs : List Value) (w : World) (h : Lib.IsBuilder 76 5 B b bs w) :
    Calls Try.prog 110 #[.pointer (some ⟨b, 0, none⟩)] w fun e w' => e = .returned (.tuple #[]) ∧ Lib.BuilderAt 76 5 B b (.pointer (some ⟨b, 0, none⟩)) bs w' ∧ Below B w w' ∧ Apart b w w' := by
  rcases h with h | h
  · exact (check_fresh b w h.cell0 h.shape h.frozen0).mono fun e w' hh => by
      obtain ⟨rfl, rfl⟩ := hh
      exact ⟨rfl, h.used _, (Below.refl B w).setCell (p := ⟨b, 0, none⟩) h.1 _, apart_set _⟩
  · exact (check_used b w h.cell0).mono fun e w' hh => by
      obtain ⟨rfl, rfl⟩ := hh
      exact ⟨rfl, h, Below.refl B _, fun k cs t fr _ _ hh => hh⟩
set_option maxRecDepth 100000 in
set_option maxHeartbeats 1000000 in
theorem wstrI_any (B b : Nat) (bs : List Value) (s : ByteArray) (w : World) (h : Lib.IsBuilder 76 5 B b bs w) (hlen : bs.length + s.size ≤ 140737488355328) (hBw : B ≤ w.heap.size) :
    Calls Try.prog 101 #[.pointer (some ⟨b, 0, none⟩), .string s] w fun e w' => e = .returned (.tuple #[.int .i64 s.size, .nilIface]) ∧ Lib.BuilderAt 76 5 B b (.pointer (some ⟨b, 0, none⟩)) (bs ++ Lib.strCells s) w' ∧ Below B w w' ∧ Apart b w w' := by
  obtain ⟨i0, hi, hz0, hz1, hz2⟩ := info_parts ibyte
  go_enter Try.func101, Try.ntmps101
  go_wp2_with (first | (go_at_call 110; refine (bcheckA_any B b bs _ h).mono ?_; rintro e w1 ⟨rfl, h1, hb1, ha1⟩; obtain ⟨hB, v, hbk, hown, hne, d0, d1, hlt⟩ := built_parts h1; have hs1 := hb1.size; have HBK := Lib.hid hbk; have HA1 := Lib.hid ha1; clear hbk ha1) | (at_builtin; refine Lib.wpList_append_own_string _ rfl _ _ 74 9 rfl B 5 i0 Try.underlying74 Try.underlying9 hi hz0 hz1 hz2 v bs.length bs rfl hown s rfl ?c3 ?c4 ?c5 ?_))
  case c3 => unfold maxLen; omega
  case c4 => omega
  case c5 => omega
  intro v' w2 hown2 hgrow _
  have k2 : w2.heap[b]? = some (.cells #[.pointer (some ⟨b, 0, none⟩), v] 76 (0, 0)) := by
    rw [hgrow.block b hlt (fun e => hne e.symm)]
    exact HBK.out
  have e0 : w2.cell? ⟨b, 0, none⟩ = some (.pointer (some ⟨b, 0, none⟩)) := by rw [Lib.cell_of_heap k2]; rfl
  have e1 : w2.cell? ⟨b, 1, none⟩ = some v := by rw [Lib.cell_of_heap k2]; rfl
  have f1 : w2.frozen? ⟨b, 1, none⟩ = false := Lib.frozen_of_heap k2 1
  obtain ⟨ao, n', cap, rfl⟩ : ∃ ao n' cap, v' = .slice ao n' cap := by
    rcases hown2.2 with ⟨hv, _⟩ | ⟨g, cap, cur, hv, _⟩
    · exact ⟨_, _, _, hv⟩
    · exact ⟨_, _, _, hv⟩
  have K2 := Lib.hid k2
  have hr : ∀ k, v.ownBlock = some k → B ≤ k := fun k hk => (hown.lt k hk).1
  have HB := Lib.hid ((hb1.grown hgrow (by omega) hr).setCell (p := ⟨b, 1, none⟩) hB (.slice ao n' cap))
  have HA : Apart b w1 (w2.setCell ⟨b, 1, none⟩ (.slice ao n' cap)) := by
    intro k cs t fr hk ht hh
    rw [Below.heap_setCell _ _ _ _ hk, hgrow.block k (lt_heap hh) (fun e => own_not hown hh ht e.symm)]
    exact hh
  have HAH := Lib.hid HA
  have HO := Lib.hid hown2
  clear k2 hgrow hown2 hr HA hown
  go_wp2
  go_ret2
  exact ⟨rfl, Lib.BuilderAt.put (T := 76) (e := 5) hB K2.out (bs' := bs ++ Lib.strCells s) (by simpa [Lib.strCells_length] using HO.out) (by decide), HB.out, HA1.out.trans HAH.out⟩

theorem putB_size (n z : Int) : (putB n z).size ≤ 8 := by
  unfold putB
  split
  · rename_i h
    have hl := putL_len n z h.1
    have : (strOfNums (putL n z)).size = (putL n z).length := strOfNums_size _
    rw [this, hl]
    rcases h.1 with rfl | rfl | rfl | rfl <;> decide
  · rw [strOfNums_size]; decide
theorem putI_any (B b : Nat) (bs : List Value) (n z : Int) (w : World) (h : Lib.IsBuilder 76 5 B b bs w) (hlen : bs.length + 8 ≤ 140737488355328) (hBw : B ≤ w.heap.size) :
    Calls Try.prog 90 #[.pointer (some ⟨b, 0, none⟩), .int .i64 n, .int .i64 z] w fun e w' => e = .returned (.tuple #[]) ∧ Lib.BuilderAt 76 5 B b (.pointer (some ⟨b, 0, none⟩)) (bs ++ Lib.strCells (putB n z)) w' ∧ Below B w w' ∧ Apart b w w' := by
  have hps := putB_size n z
  go_enter Try.func90, Try.ntmps90
  go_wp2_with (first | (go_at_call 100; refine (put_any n z _).mono ?_; rintro e w1 ⟨rfl, hb1⟩; have h1 := isb_keep h hb1; have HB1 := Lib.hid hb1; have hs1 := hb1.size; clear hb1) | (go_at_call 101; refine (wstrI_any B b _ _ _ h1 (by omega) (by omega)).mono ?_; rintro e w2 ⟨rfl, h2, hb2, ha2⟩))
  go_end0
  exact ⟨rfl, h2, (HB1.out.mono hBw).trans hb2, (apart_below HB1.out).trans ha2⟩

theorem strC_app (a b : ByteArray) : Lib.strCells (a ++ b) = Lib.strCells a ++ Lib.strCells b := by unfold Lib.strCells; simp

end Go.Proofs.Ytpghkdmljanncaa
