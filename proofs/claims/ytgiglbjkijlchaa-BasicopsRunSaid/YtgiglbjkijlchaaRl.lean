/- Layer 42: local. -/
import Derived.Test.YtgiglbjkijlchaaRq
namespace Go.Proofs.Ytgiglbjkijlchaa
open Go.ChangeShapes Go.WideShapes Go.ChangeAt Go.RowKit Go.PlainAid
set_option linter.unusedSimpArgs false
set_option linter.unusedVariables false

def locO (n k : Int) (ls : List Va) : Option Int := if n < 0 then none else match ls[n.toNat]? with | some p => if p.1 = k then some p.2 else none | none => none
def localV (n k : Int) (ls : List Va) : Int := (locO n k ls).getD 0
def localS (n k : Int) (r : Rs) : Rs := match locO n k r.ls with | some _ => r | none => failS 21 r
theorem localS_ls (n k : Int) (r : Rs) : (localS n k r).ls = r.ls := by unfold localS; split; rfl; exact failS_ls _ _
theorem localS_ss (n k : Int) (r : Rs) : (localS n k r).ss = r.ss := by unfold localS; split; rfl; exact failS_ss _ _
theorem RunSt.ln {w0 W : World} {b : Nat} {h : Hd8} {r : Rs} {lA : Option Addr} {lc : Nat} {sv : Value} (H : RunSt w0 W b h r lA lc sv) {k : Nat} {p : Va} (hp : r.ls[k]? = some p) : ∃ g o, lA = some ⟨g, o, none⟩ ∧ g < W.heap.size ∧ W.cell? ⟨g, o + k * 2, none⟩ = some (.int .i64 p.1) ∧ W.cell? ⟨g, o + k * 2 + 1, none⟩ = some (.int .i64 p.2) := by
  rcases H.loc with h0 | ⟨g, o, hA, hg, hc⟩
  · rw [h0] at hp; simp at hp
  · exact ⟨g, o, hA, hg, hc k p hp⟩
set_option maxRecDepth 100000 in
set_option maxHeartbeats 1000000 in
theorem local_any {w0 W : World} {b : Nat} {h : Hd8} {r : Rs} {lA : Option Addr} {lc : Nat} {sv : Value} (n k : Int) (H : RunSt w0 W b h r lA lc sv) (hlb : r.ls.length ≤ 1000000) :
    Calls Try.prog 35 #[.pointer (some ⟨b, 0, none⟩), .int .i64 n, .int .i64 k] W (VlRet w0 W b h (localS n k r) lA lc sv (.int .i64 (localV n k r.ls))) := by
  have HH := Lib.hid H
  have HF := Lib.hid (fail_any H 21)
  obtain ⟨c0, c1, c2, c3, c4, c5, c6, c7, c8⟩ := nine_cells H.box
  obtain ⟨m, hm⟩ : ∃ m, r.ls.length = m := ⟨_, rfl⟩
  have HM := Lib.hid hm
  rw [hm] at c3 hlb
  clear hm
  by_cases h0 : n < 0
  · have HV := Lib.hid (show locO n k r.ls = none from if_pos h0)
    clear H
    go_enter Try.func35, Try.ntmps35
    go_wp2_with (go_at_call 32; refine HF.out.mono ?_; rintro e w4 ⟨rfl, sv4, hr4, hk4, hl4⟩)
    go_ret
    exact ⟨by unfold localV; rw [HV.out]; rfl, sv4, by unfold localS; rw [HV.out]; exact hr4, hk4, hl4⟩
  · obtain ⟨j, rfl⟩ : ∃ j : Nat, n = (j : Int) := ⟨n.toNat, by omega⟩
    by_cases h1 : j < m
    · obtain ⟨p, hp⟩ := get_someF (l := r.ls) (k := j) (by rw [HM.out]; exact h1)
      obtain ⟨g, o, rfl, hg, q0, q1⟩ := H.ln hp
      have hj0 : (0 : Int) ≤ (j : Int) := by omega
      have hj1 : (j : Int) < (m : Int) := by omega
      by_cases hk : p.1 = k
      · have HV := Lib.hid (show locO j k r.ls = some p.2 by unfold locO; rw [if_neg h0, Int.toNat_natCast, hp]; exact if_pos hk)
        subst hk
        clear H hp h0
        go_enter Try.func35, Try.ntmps35
        go_wp2_with fail
        go_ret
        exact ⟨by unfold localV; rw [HV.out]; rfl, sv, by unfold localS; rw [HV.out]; exact HH.out, Kept.of_below (Below.refl _ _), Lies.refl _ _⟩
      · have HV := Lib.hid (show locO j k r.ls = none by unfold locO; rw [if_neg h0, Int.toNat_natCast, hp]; exact if_neg hk)
        have hne : (p.1 != k) = true := by simpa using hk
        clear H hp h0
        go_enter Try.func35, Try.ntmps35
        go_wp2_with (go_at_call 32; refine HF.out.mono ?_; rintro e w4 ⟨rfl, sv4, hr4, hk4, hl4⟩)
        go_ret
        exact ⟨by unfold localV; rw [HV.out]; rfl, sv4, by unfold localS; rw [HV.out]; exact hr4, hk4, hl4⟩
    · have HV := Lib.hid (show locO j k r.ls = none by unfold locO; rw [if_neg h0, Int.toNat_natCast, List.getElem?_eq_none (by rw [HM.out]; omega)])
      have hj1 : (m : Int) ≤ (j : Int) := by omega
      clear H h0
      go_enter Try.func35, Try.ntmps35
      go_wp2_with (go_at_call 32; refine HF.out.mono ?_; rintro e w4 ⟨rfl, sv4, hr4, hk4, hl4⟩)
      go_ret
      exact ⟨by unfold localV; rw [HV.out]; rfl, sv4, by unfold localS; rw [HV.out]; exact hr4, hk4, hl4⟩

end Go.Proofs.Ytgiglbjkijlchaa
