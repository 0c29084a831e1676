/- Layer 16: the reference's Same, on one entry twice. -/
import Derived.Test.YthifmcnemeiphaaDoorJd
namespace Go.Proofs.YthifmcnemeiphaaDoor
open Go.ChangeShapes Go.WideShapes Go.ChangeAt Go.RowKit Go.PlainAid Go.Maps
set_option linter.unusedSimpArgs false
set_option linter.unusedVariables false

theorem lt_num_CI {x : CI} {w : World} {B : Nat} (h : x.ok w B) : x.n ≤ x.c ∧ x.c ≤ 9223372036854775807 := ⟨h.2.2.2.1, h.2.2.2.2.1⟩
set_option maxRecDepth 100000 in
set_option maxHeartbeats 2000000 in
theorem same_any (x : CI) (w : World) (hx : x.ok w w.heap.size) (hn : x.n ≤ 1000000) :
    Calls Tryd.prog 22 #[(Value.agg #[Value.string (CI.nm x), Value.string (CI.su x), Value.slice (CI.iA x) (CI.n x) (CI.c x), Value.bool (CI.isI x)]), (Value.agg #[Value.string (CI.nm x), Value.string (CI.su x), Value.slice (CI.iA x) (CI.n x) (CI.c x), Value.bool (CI.isI x)])] w fun e w' => e = .returned (.bool true) ∧ Below w.heap.size w w' := by
  have HX := Lib.hid hx
  have hfl := hx.2.2.1
  have HFL := Lib.hid hfl
  clear hx hfl
  obtain ⟨s1, s2, A, n, c, fs, b⟩ := x
  have TX := Lib.hid (fun (W : World) (h : Below w.heap.size w W) => by
    have q := texts_any A n c fs A n c fs W HFL.out HFL.out hn hn (HX.out.up h).2.2.2.2.2.1 (HX.out.up h).2.2.2.2.2.1
    rw [show txB fs fs = true from decide_eq_true rfl] at q
    exact q)
  have e1 : (s1.toList == s1.toList) = true := beq_self_eq_true _
  have e2 : (s2.toList == s2.toList) = true := beq_self_eq_true _
  have e3 : (b == b) = true := beq_self_eq_true _
  go_enter Tryd.func22, Tryd.ntmps22
  go_wp2_with (go_at_call 27; (with_reducible refine (TX.out _ (below_al (below_al (Below.refl _ _) _) _)).mono ?_); rintro e w3 ⟨rfl, hb3⟩; have HB3 := Lib.hid (below_on (below_al (below_al (Below.refl _ _) _) _) hb3); clear hb3)
  go_ret
  exact ⟨rfl, HB3.out⟩
end Go.Proofs.YthifmcnemeiphaaDoor
