/- Layer 16: the reference's ifaces. -/
import Derived.Test.YthifmcnemeiphaaDoorHp
namespace Go.Proofs.YthifmcnemeiphaaDoor
open Go.ChangeShapes Go.WideShapes Go.ChangeAt Go.RowKit Go.PlainAid Go.Maps
set_option linter.unusedSimpArgs false
set_option linter.unusedVariables false

theorem all_no {L : List CI} {x : CI} {j : Nat} (hj : j < x.fs.length) (h : ifOk L x.fs[j] = false) : x.fs.all (ifOk L) = false := by
  cases hh : x.fs.all (ifOk L) with
  | false => rfl
  | true => rw [List.all_eq_true] at hh; have := hh _ (List.getElem_mem hj); rw [h] at this; cases this
theorem all_yes {L : List CI} {x : CI} (h : ∀ k (hk : k < x.fs.length), ifOk L x.fs[k] = true) : x.fs.all (ifOk L) = true := by
  rw [List.all_eq_true]
  intro s hs
  obtain ⟨k, hk, rfl⟩ := List.getElem_of_mem hs
  exact h k hk
set_option maxRecDepth 100000 in
set_option maxHeartbeats 2000000 in
theorem ifaces_any (A : Option Addr) (n c : Nat) (L : List CI) (x : CI) (w : World) (hn : L.length = n) (hc : n ≤ 1000000) (h : CIs w w.heap.size A L) (hx : x.ok w w.heap.size) :
    Calls Tryd.prog 92 #[.slice A n c, (Value.agg #[Value.string (CI.nm x), Value.string (CI.su x), Value.slice (CI.iA x) (CI.n x) (CI.c x), Value.bool (CI.isI x)])] w fun e w' => e = .returned (.bool (x.fs.all (ifOk L))) ∧ Below w.heap.size w w' := by
  have HL := Lib.hid h
  have HN := Lib.hid hn
  have HIA := Lib.hid (fun (j : Nat) (hj : j < x.fs.length) (W : World) (hb : Below w.heap.size w W) => ci_in hx hb hj)
  have HFN := Lib.hid (show x.fs.length = x.n from hx.2.2.1)
  have hnn : x.n ≤ 9223372036854775807 := by have := hx.2.2.2; omega
  clear h hn hx
  generalize x.iA = iA at HIA ⊢
  go_enter Tryd.func92, Tryd.ntmps92
  go_upto_region 1 with fail
  have hbx := World.alloc_heap_new w (.cells #[.string x.nm, .string x.su, .slice iA x.n x.c, .bool x.isI] 30)
  have hB := below_al (Below.refl w.heap.size w) (.cells #[.string x.nm, .string x.su, .slice iA x.n x.c, .bool x.isI] 30)
  generalize w.alloc (.cells #[.string x.nm, .string x.su, .slice iA x.n x.c, .bool x.isI] 30) = W1 at hbx hB ⊢
  have HLW := Lib.hid (HL.out.up hB)
  have HB := Lib.hid hB
  have HBX := Lib.hid hbx
  clear hbx hB
  go_wp2
  go_loopw [5] (fun jv wr => ∃ j : Nat, jv = .int .i64 j ∧ j ≤ x.n ∧ Hid (Below W1.heap.size W1 wr) ∧ Hid (∀ k (hk : k < j) (hl : k < x.fs.length), ifOk L x.fs[k] = true)) (fun jv _ => x.n - (intOf jv).toNat)
  case atStart => exact ⟨0, rfl, Nat.zero_le _, Lib.hid (Below.refl _ _), Lib.hid fun k hk => absurd hk (Nat.not_lt_zero _)⟩
  case round =>
    obtain ⟨j, rfl, hj, hB, hg⟩ := hrel
    obtain ⟨⟨x0, x1, x2, x3⟩, _⟩ := four_cells ((hB.out.block _ (lt_heap HBX.out)).trans HBX.out)
    have HLR := Lib.hid (HLW.out.up hB.out)
    by_cases hjl : j < x.n
    · have hjx : j < x.fs.length := by rw [HFN.out]; exact hjl
      obtain ⟨q, p, rfl, hcj, hsz⟩ := HIA.out j hjx wr (below_on HB.out hB.out)
      have HTB := Lib.hid (all_no (L := L) hjx)
      have HSN := Lib.hid (fun (h : ifOk L x.fs[j] = true) => show ∀ k (hk : k < j + 1) (hl : k < x.fs.length), ifOk L x.fs[k] = true from fun k hk hl => by
        rcases Nat.lt_or_ge k j with h' | h'
        · exact hg.out k h' hl
        · obtain rfl : k = j := by omega
          exact h)
      generalize x.fs[j] = s at hcj hsz HTB HSN
      have HK := Lib.hid (rlookup_any _ n c L s wr HN.out (by omega) HLR.out)
      obtain ⟨y, hy⟩ : ∃ y, lkC L s = y := ⟨_, rfl⟩
      rw [hy] at HK
      cases hf : fB L s with
      | false =>
        rw [hf] at HK
        have HV := Lib.hid (HTB.out (by unfold ifOk; rw [hf]; rfl))
        clear hf hy
        go_wp2_with (go_at_call 21; (with_reducible refine (HK.out).mono ?_); rintro e w1 ⟨rfl, hb1⟩)
        go_ret
        exact ⟨by rw [HV.out]; rfl, below_al (below_on (below_on HB.out hB.out) hb1) _⟩
      | true =>
        cases hI : y.isI with
        | false =>
          have HV := Lib.hid (HTB.out (by unfold ifOk; rw [hf, hy, hI]; rfl))
          have HI := Lib.hid hI
          rw [hf] at HK
          clear hf hI hy
          go_upto_region 5 with (go_at_call 21; (with_reducible refine (HK.out).mono ?_); rintro e w1 ⟨rfl, hb1⟩)
          have hI := HI.out
          go_wp2
          go_ret
          exact ⟨by rw [HV.out]; rfl, below_al (below_on (below_on HB.out hB.out) hb1) _⟩
        | true =>
          have HV := Lib.hid (HSN.out (by unfold ifOk; rw [hf, hy, hI]; rfl))
          have HI := Lib.hid hI
          rw [hf] at HK
          clear hf hI hy
          go_upto_region 5 with (go_at_call 21; (with_reducible refine (HK.out).mono ?_); rintro e w1 ⟨rfl, hb1⟩)
          have hI := HI.out
          have HBN := Lib.hid (below_al (below_on hB.out hb1) (.cells #[.string y.nm, .string y.su, .slice y.iA y.n y.c, .bool y.isI] 30))
          go_wp2
          go_roundw
          case rel => exact ⟨j + 1, by go_num, by omega, by rw [HI.out] at HBN; exact HBN, HV⟩
          case measure => simp [intOf]; omega
    · obtain rfl : j = x.n := by omega
      have HV := Lib.hid (all_yes (L := L) (x := x) (fun k hk => hg.out k (by rw [← HFN.out]; exact hk) hk))
      go_wp2
      go_ret
      exact ⟨by rw [HV.out]; rfl, below_on HB.out hB.out⟩
end Go.Proofs.YthifmcnemeiphaaDoor
