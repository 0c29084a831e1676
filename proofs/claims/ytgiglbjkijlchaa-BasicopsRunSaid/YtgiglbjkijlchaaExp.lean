/- Layer 42: numbers stay in their range. -/
import Derived.Test.YtgiglbjkijlchaaExg
namespace Go.Proofs.Ytgiglbjkijlchaa
open Go.ChangeShapes Go.WideShapes Go.ChangeAt Go.RowKit Go.PlainAid
set_option linter.unusedSimpArgs false
set_option linter.unusedVariables false

theorem rg_w32 (n : Int) : Rg (wrap32 n) := by have := wrap32_bd n; exact ⟨by omega, by omega⟩
theorem rg_w64 (n : Int) : Rg (wrap64 n) := wrap64_bd n
theorem rg_0 : Rg 0 := ⟨by decide, by decide⟩
theorem rg_cmp (a b : Int) : Rg (cmpI a b) := by unfold cmpI; split; exact ⟨by decide, by decide⟩; split <;> exact ⟨by decide, by decide⟩
theorem mod_le {c b : Int} (h : 0 ≤ c) : 0 ≤ c.tmod b ∧ c.tmod b ≤ c := by
  have h1 := Int.tmod_nonneg b h
  refine ⟨h1, ?_⟩
  rw [Int.tmod_eq_emod_of_nonneg h]
  rcases Classical.em (b = 0) with e | e
  · subst e; simp
  · have h3 := Int.emod_add_mul_ediv c b
    have h4 : 0 ≤ b * (c / b) := by
      rcases Int.le_total 0 b with hb | hb
      · exact Int.mul_nonneg hb (Int.ediv_nonneg h hb)
      · exact Int.mul_nonneg_of_nonpos_of_nonpos hb (Int.ediv_nonpos_of_nonneg_of_nonpos h hb)
    omega
theorem rg_mod {a b : Int} (ha : Rg a) : Rg (a.tmod b) := by
  have hr := ha
  unfold Rg at hr ⊢
  rcases Int.le_total 0 a with h | h
  · have := mod_le (b := b) h
    omega
  · have h2 : 0 ≤ -a := by omega
    have := mod_le (b := b) h2
    rw [Int.neg_tmod] at this
    omega
theorem rg_div32 {a : Int} (k : Nat) (ha : Rg a) : Rg (a / 2 ^ k) := by
  have h0 : (0 : Int) < 2 ^ k := Int.pow_pos (by decide)
  have hr := ha
  unfold Rg at hr ⊢
  have h1 : (1 : Int) ≤ 2 ^ k := h0
  constructor
  · rw [Int.le_ediv_iff_mul_le h0]
    have : -9223372036854775808 * 2 ^ k ≤ -9223372036854775808 * (1 : Int) := by
      generalize (2 : Int) ^ k = z at h1
      omega
    omega
  · rw [← Int.lt_add_one_iff, Int.ediv_lt_iff_lt_mul h0]
    generalize (2 : Int) ^ k = z at h1
    omega
theorem rg_c64 {op a b : Int} (ha : Rg a) : Rg (c64V op a b) := by
  unfold c64V
  repeat' split
  all_goals first | exact rg_w64 _ | exact rg_0 | exact rg_mod ha | exact rg_cmp _ _
theorem rg_wi (z : Int) : Rg (IntKind.i64.wrap z) := by
  unfold Rg
  rw [IntKind.wrap_i64]
  omega
theorem rg_and (a b : Int) : Rg (bits .and .i64 a b) := rg_wi _
theorem rg_or (a b : Int) : Rg (bits .or .i64 a b) := rg_wi _
theorem rg_xor (a b : Int) : Rg (bits .xor .i64 a b) := rg_wi _
theorem rg_ite {c : Prop} [Decidable c] {x y : Int} (h1 : Rg x) (h2 : Rg y) : Rg (if c then x else y) := by split; exact h1; exact h2
theorem rg_c32 {op a b : Int} (ha : Rg a) : Rg (c32V op a b) :=
  rg_ite (rg_w32 _) (rg_ite (rg_w32 _) (rg_ite (rg_w32 _) (rg_ite (rg_ite rg_0 (rg_w32 _)) (rg_ite (rg_ite rg_0 (rg_mod ha)) (rg_ite (rg_w32 _) (rg_ite (rg_w32 _) (rg_ite (rg_div32 _ ha) (rg_ite (rg_w32 _) (rg_ite (rg_and _ _) (rg_ite (rg_or _ _) (rg_xor _ _)))))))))))
theorem rg_comp {op a b : Int} (ha : Rg a) : Rg (compV op a b) := by
  unfold compV
  repeat' split
  · exact rg_c32 (rg_w32 _)
  · exact rg_c64 ha
  · exact rg_w32 _
  · exact rg_0
def RIn (r : Rs) : Prop := VsIn r.ls ∧ VsIn r.ss
theorem rin_fail {x : Int} {r : Rs} (h : RIn r) : RIn (failS x r) := by unfold failS; split; exact h; exact h
theorem rin_err {x : Int} {r : Rs} (h : RIn r) : RIn (errS x r) := by unfold errS; split; exact h; exact rin_fail h
theorem vs_app {L M : List Va} (h : VsIn L) (k : VsIn M) : VsIn (L ++ M) := fun p hp => by
  rcases List.mem_append.1 hp with q | q
  · exact h p q
  · exact k p q
theorem vs_one {v : Va} (h : Rg v.2) : VsIn [v] := fun p hp => by rw [List.mem_singleton.1 hp]; exact h
theorem vs_cons {v : Va} {L : List Va} (h : Rg v.2) (k : VsIn L) : VsIn (v :: L) := vs_app (vs_one h) k
theorem rin_push {k n : Int} {r : Rs} (h : RIn r) (hn : Rg n) : RIn (pushS k n r) := ⟨h.1, vs_app h.2 (vs_one hn)⟩
theorem rin_popAny {r : Rs} (h : RIn r) : RIn (popAnyS r) := by
  unfold popAnyS
  split
  · exact rin_fail h
  · exact ⟨h.1, fun p hp => h.2 p (List.dropLast_subset _ hp)⟩
theorem rin_pop {k : Int} {r : Rs} (h : RIn r) : RIn (popS k r) := by unfold popS; split; exact rin_popAny h; exact rin_fail (rin_popAny h)
theorem rin_localV {n k : Int} {ls : List Va} (h : VsIn ls) : Rg (localV n k ls) := by
  unfold localV locO
  split
  · exact rg_0
  · cases hq : ls[n.toNat]? with
    | none => exact rg_0
    | some p =>
      dsimp only
      split
      · exact h p (List.mem_of_getElem? hq)
      · exact rg_0
theorem rin_localS {n k : Int} {r : Rs} (h : RIn r) : RIn (localS n k r) := by unfold localS; split; exact h; exact rin_fail h
theorem rin_set {n : Int} {v : Va} {r : Rs} (h : RIn r) (hv : Rg v.2) : RIn (setS n v r) := by
  unfold setS
  split
  · refine ⟨fun p hp => ?_, h.2⟩
    rcases List.mem_or_eq_of_mem_set hp with q | q
    · exact h.1 p q
    · rw [q]; exact hv
  · exact rin_fail h
theorem rin_const {i : In} {r : Rs} (h : RIn r) (hi : Rg i.a) : RIn (constS i r) := by
  unfold constS
  split
  · exact rin_push h rg_0
  · split
    · exact rin_push h hi
    · split
      · exact h
      · exact rin_push h hi
theorem rin_access {i : In} {r : Rs} (h : RIn r) : RIn (accessS i r) := by
  unfold accessS
  split
  · exact rin_push (rin_localS h) (rin_localV h.1)
  · split
    · exact rin_set (rin_pop h) (topV_rg h.2)
    · exact rin_set (rin_localS h) (show Rg (compV 15 (localV i.a 1 r.ls) i.b) from rg_comp (rin_localV h.1))
theorem rin_shuf {op : Int} {r : Rs} (h : RIn r) : RIn (shufS op r) := by
  have h1 := rin_popAny h
  have h2 := rin_popAny h1
  have t1 := topV_rg h.2
  have t2 := topV_rg h1.2
  unfold shufS
  split
  · exact ⟨h1.1, vs_app h1.2 (vs_cons t1 (vs_one t1))⟩
  · split
    · exact ⟨h2.1, vs_app h2.2 (vs_cons t1 (vs_cons t2 (vs_one t1)))⟩
    · split
      · exact ⟨h2.1, vs_app h2.2 (vs_cons t1 (vs_one t2))⟩
      · exact h1
theorem rin_comp {op : Int} {r : Rs} (h : RIn r) : RIn (compS op r) := by
  unfold compS
  split
  · exact rin_push (rin_err (rin_pop h)) (rg_comp (topV_rg h.2))
  · exact rin_push (rin_err (rin_pop (rin_pop h))) (rg_comp (topV_rg (rin_pop h).2))
theorem rin_br {i : In} {r : Rs} (h : RIn r) : RIn (brS i r) := by
  unfold brS
  split
  · exact rin_pop (rin_pop h)
  · split
    · exact rin_pop h
    · split
      · exact rin_pop (rin_pop h)
      · split
        · exact h
        · exact rin_pop h
theorem rin_run {i : In} {r : Rs} (h : RIn r) (hi : Rg i.a) : RIn (runI i r) := by
  unfold runI
  split
  · exact rin_br h
  · split
    · exact rin_comp h
    · split
      · exact rin_shuf h
      · split
        · exact rin_access h
        · exact rin_const h hi
theorem exec_in {i : In} {a : Sp} (h1 : VsIn a.ls) (h2 : VsIn a.ss) (hi : Rg i.a) : VsIn (execS i a).ls ∧ VsIn (execS i a).ss := by
  unfold execS
  split
  · exact ⟨h1, h2⟩
  · exact rin_run (r := ⟨a.ls, a.ss, 0⟩) ⟨h1, h2⟩ hi
end Go.Proofs.Ytgiglbjkijlchaa
