/- Layer 42: the reference's number and plain, beside the program's. -/
import Derived.Test.YtgiglbjkijlchaaExq
namespace Go.Proofs.Ytgiglbjkijlchaa
open Go.ChangeShapes Go.WideShapes Go.ChangeAt Go.RowKit Go.PlainAid
set_option linter.unusedSimpArgs false
set_option linter.unusedVariables false

theorem failS_zero (r : Rs) : failS 0 r = r := by
  unfold failS
  split
  · rename_i h; cases r; simp only at h; rw [h]
  · rfl
theorem errS_eq (x : Int) (r : Rs) : errS x r = failS x r := by
  unfold errS
  split
  · rename_i h; rw [h, failS_zero]
  · rfl
theorem takeV_eq {k : Int} {r : Rs} (h0 : r.e = 0) (h : (takeS k r).e = 0) : takeV r = topV r.ss := by
  unfold takeV
  rw [if_neg]
  intro g
  rcases g with g | g
  · have : takeS k r = failS 20 r := if_pos g
    rw [this] at h
    unfold failS at h
    rw [if_pos h0] at h
    exact absurd h (by decide : (20 : Int) ≠ 0)
  · exact g h0
theorem takeS_up {k : Int} {r : Rs} (h : (takeS k r).e = 0) : r.e = 0 := Classical.byContradiction fun g => g ((takeS_e (k := k) g).symm.trans h)
def numR (op : Int) (r : Rs) : Rs :=
  if isUn op then putS (toK op) (compV op (takeV r).2 0) (failS (compE op 0) (takeS (fromK op) r))
  else putS (toK op) (compV op (takeV (takeS (fromK op) r)).2 (takeV r).2) (failS (compE op (takeV r).2) (takeS (fromK op) (takeS (fromK op) r)))
theorem fromK_ne (op : Int) : fromK op ≠ 0 := by unfold fromK; split <;> decide
/-- a number pushed behind an error told: what the error and the number are counts only without an error before -/
theorem sim_told {r q : Rs} {T x x' n n' : Int} (h : Sim r q) (hx : r.e = 0 → x = x' ∧ n = n') : Sim (putS T n (failS x r)) (pushS T n' (errS x' q)) := by
  rw [errS_eq]
  by_cases h0 : r.e = 0
  · obtain ⟨rfl, rfl⟩ := hx h0
    exact sim_put T n (sim_fail x h)
  · have hq : q.e ≠ 0 := h.1 ▸ h0
    rw [failS_e h0, failS_e hq]
    unfold putS
    rw [if_neg h0]
    exact ⟨h.1, fun e => absurd e h0⟩
theorem sim_num {op : Int} {r q : Rs} (h : Sim r q) : Sim (numR op r) (compS op q) := by
  have hf := fromK_ne op
  have h1 := sim_pop hf h
  have h2 := sim_pop hf h1
  have t1 : (takeS (fromK op) r).e = 0 → takeV r = topV q.ss := fun e => by
    have hr := takeS_up e
    rw [takeV_eq hr e, h.2 hr]
  unfold numR compS
  split
  · exact sim_told h1 (fun e => ⟨rfl, by rw [t1 e]⟩)
  · refine sim_told h2 (fun e => ?_)
    have e1 := takeS_up e
    rw [t1 e1, takeV_eq e1 e, h1.2 e1]
    exact ⟨rfl, rfl⟩
def putV (v : Va) (r : Rs) : Rs := putS v.1 v.2 r
def plainR (i : In) (r : Rs) : Rs :=
  if i.op = 1 then putS 3 0 r else if i.op = 2 then putS 1 i.a r else if i.op = 3 ∧ i.b = 3 then putS 1 i.a r else if i.op = 3 then putS 2 i.a r
  else if 4 ≤ i.op ∧ i.op ≤ 6 then putV (locRV i.a r) (locRS i.a (i.op - 3) r)
  else if 7 ≤ i.op ∧ i.op ≤ 9 then setRS i.a (takeV r) (takeS (i.op - 6) r)
  else if i.op = 10 then setRS i.a (1, compV 15 (locRV i.a r).2 i.b) (locRS i.a 1 r)
  else if i.op = 11 then takeS 0 r
  else if i.op = 12 then putV (takeV r) (putV (takeV r) (takeS 0 r))
  else if i.op = 13 then putV (takeV r) (putV (takeV (takeS 0 r)) (putV (takeV r) (takeS 0 (takeS 0 r))))
  else if i.op = 14 then putV (takeV (takeS 0 r)) (putV (takeV r) (takeS 0 (takeS 0 r)))
  else r
/-- pushed where no error is; the numbers count only there -/
theorem sim_putV {r q : Rs} {v v' : Va} (h : Sim r q) (hv : r.e = 0 → v = v') : Sim (putV v r) { q with ss := q.ss ++ [v'] } := by
  by_cases h0 : r.e = 0
  · rw [hv h0]; exact sim_put v'.1 v'.2 h
  · have : putV v r = r := if_neg h0
    rw [this]
    exact ⟨h.1, fun e => absurd e h0⟩
theorem putV_e {v : Va} {r : Rs} : (putV v r).e = r.e := by unfold putV putS; split <;> rfl
theorem push_two (q : Rs) (v w : Va) : ({ q with ss := q.ss ++ [v, w] } : Rs) = { ({ q with ss := q.ss ++ [v] } : Rs) with ss := q.ss ++ [v] ++ [w] } := by simp
theorem push_three (q : Rs) (v w x : Va) : ({ q with ss := q.ss ++ [v, w, x] } : Rs) = { q with ss := q.ss ++ [v] ++ [w] ++ [x] } := by simp
theorem sim_shuf {op : Int} {r q : Rs} (ho : 11 ≤ op ∧ op ≤ 14) (h : Sim r q) :
    Sim (if op = 11 then takeS 0 r else if op = 12 then putV (takeV r) (putV (takeV r) (takeS 0 r)) else if op = 13 then putV (takeV r) (putV (takeV (takeS 0 r)) (putV (takeV r) (takeS 0 (takeS 0 r)))) else putV (takeV (takeS 0 r)) (putV (takeV r) (takeS 0 (takeS 0 r)))) (shufS op q) := by
  have h1 := sim_any h
  have h2 := sim_any h1
  have t1 : (takeS 0 r).e = 0 → takeV r = topV q.ss := fun e => by
    have hr := takeS_up e
    rw [takeV_eq hr e, h.2 hr]
  have t2 : (takeS 0 (takeS 0 r)).e = 0 → takeV (takeS 0 r) = topV (popAnyS q).ss := fun e => by
    have hr := takeS_up e
    rw [takeV_eq hr e, h1.2 hr]
  unfold shufS
  rcases (by omega : op = 11 ∨ op = 12 ∨ op = 13 ∨ op = 14) with e | e | e | e <;> subst e
  · exact h1
  · exact (push_two (popAnyS q) (topV q.ss) (topV q.ss)).symm ▸ sim_putV (sim_putV h1 t1) (fun e => t1 (by rw [putV_e] at e; exact e))
  · have u1 : (takeS 0 (takeS 0 r)).e = 0 → takeV r = topV q.ss := fun e => t1 (takeS_up e)
    have := sim_putV (sim_putV (sim_putV h2 u1) (fun e => t2 (by rw [putV_e] at e; exact e))) (fun e => u1 (by rw [putV_e, putV_e] at e; exact e))
    exact (push_three (popAnyS (popAnyS q)) (topV q.ss) (topV (popAnyS q).ss) (topV q.ss)).symm ▸ this
  · have u1 : (takeS 0 (takeS 0 r)).e = 0 → takeV r = topV q.ss := fun e => t1 (takeS_up e)
    have := sim_putV (sim_putV h2 u1) (fun e => t2 (by rw [putV_e] at e; exact e))
    exact (push_two (popAnyS (popAnyS q)) (topV q.ss) (topV (popAnyS q).ss)).symm ▸ this
theorem sim_load {n k : Int} {r q : Rs} (hk : k ≠ 0) (h : Sim r q) : Sim (putV (locRV n r) (locRS n k r)) (pushS k (localV n k q.ls) (localS n k q)) := by
  refine sim_putV (sim_local hk h) (fun e => ?_)
  by_cases h0 : r.e = 0
  · have e2 := e
    rw [locRS_eq hk] at e2
    rw [locRV_eq e2 h0, h.2 h0]
  · rw [locRS_eq hk, localS_e h0] at e
    exact absurd e h0
theorem sim_store {n k : Int} {r q : Rs} (hk : k ≠ 0) (h : Sim r q) : Sim (setRS n (takeV r) (takeS k r)) (setS n (k, (topV q.ss).2) (popS k q)) := by
  refine sim_set (sim_pop hk h) (fun e => ?_)
  have hr := takeS_up e
  rw [takeV_eq hr e, ← h.2 hr]
  have hk1 : (topV r.ss).1 = k := by
    refine Classical.byContradiction fun g => ?_
    have hn : r.ss ≠ [] := fun g2 => by
      have : takeS k r = failS 20 r := if_pos g2
      rw [this] at e
      unfold failS at e
      rw [if_pos hr] at e
      exact absurd e (by decide : (20 : Int) ≠ 0)
    have : takeS k r = failS 22 { r with ss := r.ss.dropLast } := by
      unfold takeS
      rw [if_neg hn, if_neg (fun g => g hr), if_pos ⟨hk, g⟩]
    rw [this] at e
    unfold failS at e
    rw [if_pos (show ({ r with ss := r.ss.dropLast } : Rs).e = 0 from hr)] at e
    exact absurd e (by decide : (22 : Int) ≠ 0)
  rw [← hk1]
theorem sim_inc {n b : Int} {r q : Rs} (h : Sim r q) : Sim (setRS n (1, compV 15 (locRV n r).2 b) (locRS n 1 r)) (setS n (1, compV 15 (localV n 1 q.ls) b) (localS n 1 q)) := by
  refine sim_set (sim_local (by decide) h) (fun e => ?_)
  by_cases h0 : r.e = 0
  · have e2 := e
    rw [locRS_eq (by decide)] at e2
    rw [locRV_eq e2 h0, h.2 h0]
  · rw [locRS_eq (by decide), localS_e h0] at e
    exact absurd e h0
theorem sim_plain {i : In} {r q : Rs} (ho : ownI i = true) (hop : i.op ≤ 14) (h : Sim r q) : Sim (plainR i r) (runI i q) := by
  have hh : 0 ≤ i.op := by
    have : hdl i.op = true := by
      unfold ownI at ho
      revert ho
      cases hdl i.op <;> simp
    have := of_decide_eq_true this
    omega
  have e1 : ¬ 36 ≤ i.op := by omega
  have e2 : ¬ 15 ≤ i.op := by omega
  unfold runI
  rw [if_neg e1, if_neg e2]
  rcases (by omega : i.op = 0 ∨ i.op = 1 ∨ i.op = 2 ∨ i.op = 3 ∨ (4 ≤ i.op ∧ i.op ≤ 6) ∨ (7 ≤ i.op ∧ i.op ≤ 9) ∨ i.op = 10 ∨ (11 ≤ i.op ∧ i.op ≤ 14)) with e | e | e | e | e | e | e | e
  · rw [if_neg (by omega), if_neg (by omega)]
    unfold plainR constS
    simp only [e]
    exact h
  · rw [if_neg (by omega), if_neg (by omega)]
    unfold plainR constS
    simp only [e, if_true]
    exact sim_put 3 0 h
  · rw [if_neg (by omega), if_neg (by omega)]
    unfold plainR constS
    simp only [e]
    exact sim_put 1 i.a h
  · rw [if_neg (by omega), if_neg (by omega)]
    have hb : i.b = 3 ∨ i.b = 5 := by
      unfold ownI at ho
      rw [e] at ho
      have : hdl 3 = true := by decide
      rw [this] at ho
      simp at ho
      exact ho
    unfold plainR constS
    rcases hb with b | b
    · simp only [e, b]
      exact sim_put 1 i.a h
    · simp only [e, b]
      exact sim_put 2 i.a h
  · rw [if_neg (by omega), if_pos (by omega)]
    unfold plainR accessS
    rw [if_neg (by omega), if_neg (by omega), if_neg (by omega), if_neg (by omega), if_pos e, if_pos (by omega)]
    exact sim_load (by omega) h
  · rw [if_neg (by omega), if_pos (by omega)]
    unfold plainR accessS
    rw [if_neg (by omega), if_neg (by omega), if_neg (by omega), if_neg (by omega), if_neg (by omega), if_pos e, if_neg (by omega), if_pos (by omega)]
    exact sim_store (by omega) h
  · rw [if_neg (by omega), if_pos (by omega)]
    unfold plainR accessS
    rw [if_neg (by omega), if_neg (by omega), if_neg (by omega), if_neg (by omega), if_neg (by omega), if_neg (by omega), if_pos e, if_neg (by omega), if_neg (by omega)]
    exact sim_inc h
  · rw [if_pos (by omega)]
    have := sim_shuf e h
    unfold plainR
    rw [if_neg (by omega), if_neg (by omega), if_neg (by omega), if_neg (by omega), if_neg (by omega), if_neg (by omega), if_neg (by omega)]
    rcases (by omega : i.op = 14 ∨ i.op ≠ 14) with f | f
    · simp only [f] at this ⊢
      exact this
    · rw [if_neg f]
      rcases (by omega : i.op = 11 ∨ i.op = 12 ∨ i.op = 13) with g | g | g
      · simp only [g] at this ⊢
        exact this
      · simp only [g] at this ⊢
        exact this
      · simp only [g] at this ⊢
        exact this
/-- the reference's jump: the state, and where to -/
def jumpR (i : In) (r : Rs) : Rs :=
  if i.op = 48 ∨ i.op = 49 then takeS 3 (takeS 3 r) else if i.op = 50 ∨ i.op = 51 then takeS 3 r
  else if 42 ≤ i.op ∧ i.op ≤ 47 then takeS 1 (takeS 1 r) else if i.op = 52 then r else takeS 1 r
theorem sim_jump {i : In} {r q : Rs} (h : Sim r q) : Sim (jumpR i r) (brS i q) := by
  have a1 := sim_pop (k := 3) (by decide) h
  have a2 := sim_pop (k := 3) (by decide) a1
  have b1 := sim_pop (k := 1) (by decide) h
  have b2 := sim_pop (k := 1) (by decide) b1
  unfold jumpR brS
  split
  · exact a2
  · split
    · exact a1
    · split
      · exact b2
      · split
        · exact h
        · exact b1
def yesR (i : In) (r : Rs) : Bool :=
  if i.op = 48 ∨ i.op = 49 then ((takeV (takeS 3 r)).2 == (takeV r).2) == (i.op == 48) else if i.op = 50 ∨ i.op = 51 then ((takeV r).2 == 0) == (i.op == 50)
  else if 42 ≤ i.op ∧ i.op ≤ 47 then condV i.op (takeV (takeS 1 r)).2 (takeV r).2 else if i.op ≤ 41 then condV i.op (takeV r).2 0 else true
def nextR (i : In) (r : Rs) (pc : Int) : Int :=
  if i.op = 53 then tabV i (takeV r).2 else if i.op = 54 then lookV i (takeV r).2 else if yesR i r = true then i.t else wrap64 (pc + 1)
theorem next_eq {i : In} {r : Rs} {pc : Int} (ho : 36 ≤ i.op ∧ i.op ≤ 54) (h0 : r.e = 0) (he : (jumpR i r).e = 0) : nextR i r pc = nextI i r pc := by
  have one : ∀ k, k ≠ 0 → (takeS k r).e = 0 → takeV r = topV r.ss := fun k _ e => takeV_eq h0 e
  have two : ∀ k, k ≠ 0 → (takeS k (takeS k r)).e = 0 → takeV r = topV r.ss ∧ takeV (takeS k r) = topV (popS k r).ss := fun k hk e => by
    have e1 := takeS_up e
    have := (sim_pop hk (Sim.refl r)).2 e1
    exact ⟨one k hk e1, by rw [takeV_eq e1 e, this]⟩
  unfold jumpR at he
  unfold nextR nextI
  rcases (by omega : (36 ≤ i.op ∧ i.op ≤ 41) ∨ (42 ≤ i.op ∧ i.op ≤ 47) ∨ (i.op = 48 ∨ i.op = 49) ∨ (i.op = 50 ∨ i.op = 51) ∨ i.op = 52 ∨ i.op = 53 ∨ i.op = 54) with c | c | c | c | c | c | c
  · rw [if_neg (by omega), if_neg (by omega), if_neg (by omega), if_neg (by omega)] at he
    have hT : brT i r = i.t := by unfold brT; rw [if_neg (by omega), if_neg (by omega)]
    have hY : brY i r = condV i.op (topV r.ss).2 0 := by unfold brY; rw [if_neg (by omega), if_neg (by omega), if_neg (by omega), if_pos (by omega)]
    have hR : yesR i r = condV i.op (topV r.ss).2 0 := by unfold yesR; rw [if_neg (by omega), if_neg (by omega), if_neg (by omega), if_pos (by omega), one 1 (by decide) he]
    rw [if_neg (by omega), if_neg (by omega), hT, hY, hR]
    by_cases hc : condV i.op (topV r.ss).2 0 = true
    · rw [if_pos hc, if_pos ⟨by omega, hc⟩]
    · rw [if_neg hc, if_neg (fun g => hc g.2)]
  · rw [if_neg (by omega), if_neg (by omega), if_pos c] at he
    obtain ⟨v1, v2⟩ := two 1 (by decide) he
    have hT : brT i r = i.t := by unfold brT; rw [if_neg (by omega), if_neg (by omega)]
    have hY : brY i r = condV i.op (topV (popS 1 r).ss).2 (topV r.ss).2 := by unfold brY; rw [if_neg (by omega), if_neg (by omega), if_pos c]
    have hR : yesR i r = condV i.op (topV (popS 1 r).ss).2 (topV r.ss).2 := by unfold yesR; rw [if_neg (by omega), if_neg (by omega), if_pos c, v1, v2]
    rw [if_neg (by omega), if_neg (by omega), hT, hY, hR]
    by_cases hc : condV i.op (topV (popS 1 r).ss).2 (topV r.ss).2 = true
    · rw [if_pos hc, if_pos ⟨by omega, hc⟩]
    · rw [if_neg hc, if_neg (fun g => hc g.2)]
  · rw [if_pos c] at he
    obtain ⟨v1, v2⟩ := two 3 (by decide) he
    have hT : brT i r = i.t := by unfold brT; rw [if_neg (by omega), if_neg (by omega)]
    have hR : yesR i r = brY i r := by unfold yesR brY; rw [if_pos c, if_pos c, v1, v2]
    rw [if_neg (by omega), if_neg (by omega), hT, hR]
    by_cases hc : brY i r = true
    · rw [if_pos hc, if_pos ⟨by omega, hc⟩]
    · rw [if_neg hc, if_neg (fun g => hc g.2)]
  · rw [if_neg (by omega), if_pos c] at he
    have hT : brT i r = i.t := by unfold brT; rw [if_neg (by omega), if_neg (by omega)]
    have hR : yesR i r = brY i r := by unfold yesR brY; rw [if_neg (by omega), if_pos c, if_neg (by omega), if_pos c, one 3 (by decide) he]
    rw [if_neg (by omega), if_neg (by omega), hT, hR]
    by_cases hc : brY i r = true
    · rw [if_pos hc, if_pos ⟨by omega, hc⟩]
    · rw [if_neg hc, if_neg (fun g => hc g.2)]
  · have hT : brT i r = i.t := by unfold brT; rw [if_neg (by omega), if_neg (by omega)]
    have hY : brY i r = true := by unfold brY; rw [if_neg (by omega), if_neg (by omega), if_neg (by omega), if_neg (by omega)]
    have hR : yesR i r = true := by unfold yesR; rw [if_neg (by omega), if_neg (by omega), if_neg (by omega), if_neg (by omega)]
    rw [if_neg (by omega), if_neg (by omega), if_pos hR, if_pos ⟨by omega, hY⟩, hT]
  · rw [if_neg (by omega), if_neg (by omega), if_neg (by omega), if_neg (by omega)] at he
    have hT : brT i r = tabV i (topV r.ss).2 := by unfold brT; rw [if_pos c]
    have hY : brY i r = true := by unfold brY; rw [if_neg (by omega), if_neg (by omega), if_neg (by omega), if_neg (by omega)]
    rw [if_pos c, if_pos ⟨by omega, hY⟩, hT, one 1 (by decide) he]
  · rw [if_neg (by omega), if_neg (by omega), if_neg (by omega), if_neg (by omega)] at he
    have hT : brT i r = lookV i (topV r.ss).2 := by unfold brT; rw [if_neg (by omega), if_pos c]
    have hY : brY i r = true := by unfold brY; rw [if_neg (by omega), if_neg (by omega), if_neg (by omega), if_neg (by omega)]
    rw [if_neg (by omega), if_pos c, if_pos ⟨by omega, hY⟩, hT, one 1 (by decide) he]
def refI (i : In) (r : Rs) : Rs := if 15 ≤ i.op ∧ i.op ≤ 35 then numR i.op r else if 36 ≤ i.op then jumpR i r else plainR i r
def refE (i : In) (a : Sp) : Int := if ownI i = true then (refI i ⟨a.ls, a.ss, 0⟩).e else 15
def refX (i : In) (a : Sp) : Sp :=
  if refE i a ≠ 0 then a else ⟨{ a.h with pc := if 36 ≤ i.op then nextR i ⟨a.ls, a.ss, 0⟩ a.h.pc else wrap64 (a.h.pc + 1) }, (refI i ⟨a.ls, a.ss, 0⟩).ls, (refI i ⟨a.ls, a.ss, 0⟩).ss⟩
theorem own_rg {i : In} (ho : ownI i = true) : 0 ≤ i.op ∧ i.op ≤ 54 := by
  have : hdl i.op = true := by
    unfold ownI at ho
    revert ho
    cases hdl i.op <;> simp
  have := of_decide_eq_true this
  omega
theorem sim_ref {i : In} {r : Rs} (ho : ownI i = true) : Sim (refI i r) (runI i r) := by
  obtain ⟨g1, g2⟩ := own_rg ho
  unfold refI
  by_cases h1 : 36 ≤ i.op
  · rw [if_neg (by omega), if_pos h1]
    unfold runI
    rw [if_pos h1]
    exact sim_jump (Sim.refl r)
  · by_cases h2 : 15 ≤ i.op
    · rw [if_pos ⟨h2, by omega⟩]
      unfold runI
      rw [if_neg h1, if_pos h2]
      exact sim_num (Sim.refl r)
    · rw [if_neg (by omega), if_neg h1]
      exact sim_plain ho (by omega) (Sim.refl r)
theorem ref_eq (i : In) (a : Sp) : refE i a = execE i a ∧ refX i a = execS i a := by
  have hE : refE i a = execE i a := by
    unfold refE execE
    by_cases ho : ownI i = true
    · rw [if_pos ho, if_pos ho]; exact (sim_ref ho).1
    · rw [if_neg ho, if_neg ho]
  refine ⟨hE, ?_⟩
  by_cases h0 : execE i a = 0
  · have hn : ¬ (execE i a ≠ 0) := fun g => g h0
    have ho : ownI i = true := by
      refine Classical.byContradiction fun ho => ?_
      unfold execE at h0
      rw [if_neg ho] at h0
      exact absurd h0 (by decide)
    have hz : (refI i ⟨a.ls, a.ss, 0⟩).e = 0 := by
      have := hE.trans h0
      unfold refE at this
      rw [if_pos ho] at this
      exact this
    have hp : (if 36 ≤ i.op then nextR i ⟨a.ls, a.ss, 0⟩ a.h.pc else wrap64 (a.h.pc + 1)) = nextI i ⟨a.ls, a.ss, 0⟩ a.h.pc := by
      by_cases h1 : 36 ≤ i.op
      · rw [if_pos h1]
        have hj : refI i ⟨a.ls, a.ss, 0⟩ = jumpR i ⟨a.ls, a.ss, 0⟩ := by unfold refI; rw [if_neg (by omega), if_pos h1]
        exact next_eq ⟨h1, (own_rg ho).2⟩ rfl (by rw [← hj]; exact hz)
      · rw [if_neg h1]
        exact (if_neg (fun g => h1 g.1)).symm
    have x1 : refX i a = ⟨{ a.h with pc := if 36 ≤ i.op then nextR i ⟨a.ls, a.ss, 0⟩ a.h.pc else wrap64 (a.h.pc + 1) }, (refI i ⟨a.ls, a.ss, 0⟩).ls, (refI i ⟨a.ls, a.ss, 0⟩).ss⟩ := by
      unfold refX; rw [hE]; exact if_neg hn
    have x2 : execS i a = ⟨{ a.h with pc := nextI i ⟨a.ls, a.ss, 0⟩ a.h.pc }, (runI i ⟨a.ls, a.ss, 0⟩).ls, (runI i ⟨a.ls, a.ss, 0⟩).ss⟩ := if_neg hn
    rw [x1, x2, hp, (sim_ref ho).2 hz]
  · have x1 : refX i a = a := if_pos (by rw [hE]; exact h0)
    have x2 : execS i a = a := if_pos h0
    rw [x1, x2]
end Go.Proofs.Ytgiglbjkijlchaa
