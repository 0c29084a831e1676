/- Layer 19: a queue: the tail of a row of the call's own. -/
import Derived.Test.YtpghkdmljanncaaFb
import Derived.ArgAppend
namespace Go.Proofs.Ytpghkdmljanncaa
open Go.ChangeShapes Go.WideShapes Go.ChangeAt Go.RowKit Go.PlainAid
set_option linter.unusedSimpArgs false
set_option linter.unusedVariables false

/-- the tail of a row: at whatever place it begins -/
def Tl (B : Nat) (w : World) (L : List Int) (v : Value) : Prop :=
  ∃ g o cap cur, v = .slice (some ⟨g, o, none⟩) L.length cap ∧ B ≤ g ∧ w.heap[g]? = some (.cells cur 3 (0, 0)) ∧ L.length ≤ cap ∧ o + cap ≤ cur.size ∧ cap ≤ maxLen ∧ ∀ (j : Nat) (x : Int), L[j]? = some x → cur[o + j]? = some (.int .i64 x)
theorem Tl.cell {B g o cap : Nat} {w : World} {L : List Int} {n : Nat} (h : Tl B w L (.slice (some ⟨g, o, none⟩) n cap)) {j : Nat} {x : Int} (hx : L[j]? = some x) : w.cell? ⟨g, o + j, none⟩ = some (.int .i64 x) := by
  obtain ⟨g', o', cap', cur, hv, hB, hg, hc, ho, hm, hat⟩ := h
  injection hv with h1 h2 h3
  injection h1 with h1
  injection h1 with h1 h4
  subst h1 h4
  simp [World.cell?, hg, hat j x hx]
theorem Tl.lt {B : Nat} {w : World} {L : List Int} {v : Value} (h : Tl B w L v) : ∀ b, v.ownBlock = some b → B ≤ b ∧ b < w.heap.size := by
  obtain ⟨g, o, cap, cur, rfl, hB, hg, _⟩ := h
  intro b hb
  have : g = b := Option.some.inj hb
  subst this
  exact ⟨hB, lt_heap hg⟩
theorem Tl.kept {B : Nat} {w w' : World} {L : List Int} {v : Value} {r : Option Nat} (h : Tl B w L v) (hg : w.grownBy w' r) (hr : v.ownBlock ≠ r) : Tl B w' L v := by
  obtain ⟨g, o, cap, cur, rfl, hB, hh, rest⟩ := h
  exact ⟨g, o, cap, cur, rfl, hB, (hg.block g (lt_heap hh) (fun e => hr e)).trans hh, rest⟩
theorem Tl.below {B : Nat} {w w' : World} {L : List Int} {v : Value} (h : Tl B w L v) (hb : Below w.heap.size w w') : Tl B w' L v := by
  obtain ⟨g, o, cap, cur, rfl, hB, hh, rest⟩ := h
  exact ⟨g, o, cap, cur, rfl, hB, (hb.block g (lt_heap hh)).trans hh, rest⟩
theorem Tl.of_own {B : Nat} {w : World} {L : List Int} {g n cap : Nat} (h : w.ownsRow B 3 1 (.slice (some ⟨g, 0, none⟩) n cap) n (Ri L)) : Tl B w L (.slice (some ⟨g, 0, none⟩) n cap) := by
  have h1 := h.1
  rw [ri_len] at h1
  rcases h.2 with ⟨hv, _⟩ | ⟨g', cap', cur, hv, hb, hg, hnc, hcm, hcs, htake⟩
  · cases hv
  · injection hv with e1 e2 e3
    injection e1 with e1
    injection e1 with e1
    subst e1 e3
    obtain rfl : n = L.length := by omega
    refine ⟨g, 0, cap, cur, rfl, hb, hg, hnc, by omega, hcm, fun j x hx => ?_⟩
    have hj := get_ltF hx
    have : (cur.toList.take (L.length * 1))[j]? = (Ri L)[j]? := by rw [htake]
    rw [List.getElem?_take, if_pos (by omega)] at this
    unfold Ri at this
    rw [List.getElem?_map, hx] at this
    rw [Nat.zero_add]
    simpa using this
/-- the first taken away -/
theorem Tl.tail {B : Nat} {w : World} {L : List Int} {x : Int} {g o n cap : Nat} (h : Tl B w (x :: L) (.slice (some ⟨g, o, none⟩) n cap)) : Tl B w L (.slice (if cap = 1 then some ⟨g, o, none⟩ else some ⟨g, o + 1, none⟩) (n - 1) (cap - 1)) := by
  obtain ⟨g', o', cap', cur, hv, hB, hg, hc, ho, hm, hat⟩ := h
  injection hv with h1 h2 h3
  injection h1 with h1
  injection h1 with h1 h4
  subst h1 h4 h3 h2
  simp only [List.length_cons] at hc
  by_cases h1 : cap = 1
  · rw [if_pos h1]
    obtain rfl : L = [] := List.eq_nil_of_length_eq_zero (by omega)
    exact ⟨g, o, cap - 1, cur, rfl, hB, hg, by simp, by omega, by omega, fun j y hy => by simp at hy⟩
  · rw [if_neg h1]
    refine ⟨g, o + 1, cap - 1, cur, by simp, hB, hg, by omega, by omega, by omega, fun j y hy => ?_⟩
    have := hat (j + 1) y (by simpa using hy)
    rw [show o + 1 + j = o + (j + 1) by omega]
    exact this
theorem run_append_tl {w : World} {B : Nat} {L : List Int} {v : Value} (ty : TypeId) (h : Tl B w L v) (x : Int) {ad : Addr} {c : Nat} (hrow : Row w w.heap.size (some ad) [x]) (hb : L.length + 1 ≤ 1000000) (hB : B ≤ w.heap.size) :
    ∃ v' w', (Builtin.append_ #[22, 22] ty #[v, .slice (some ad) 1 c]).run Try.prog w = .ok v' w' ∧ Tl B w' (L ++ [x]) v' ∧ w.grownBy w' v.ownBlock ∧ Lies w v v' := by
  obtain ⟨i0, hi, hz0, hz1, hz2⟩ := info_parts infoI
  obtain ⟨g, o, cap, cur, rfl, hBg, hg, hc, ho, hm, hat⟩ := h
  have hnew := hrow.news
  by_cases hroom : L.length + 1 ≤ cap
  · have hr := run_append_room_cells (P := Try.prog) w 22 ty 3 i0 Try.underlying22 hi g o L.length cap ad 1 c (Ri [x]) (by rw [hz1]; rfl) hnew (ri_one [x]) hroom
      (fun j hj => by
        have hj0 : j = 0 := by simp [Ri] at hj; exact hj
        subst hj0
        rw [hz1]
        simp [World.cell?, hg]
        omega) (fun j hj => by simp [World.frozen?, hg])
    refine ⟨_, _, hr, ⟨g, o, cap, cur.setIfInBounds (o + L.length) (.int .i64 x), by simp, hBg, ?_, by simpa using hroom, by simpa using ho, hm, fun j y hy => ?_⟩, ?_⟩
    · rw [hz1]
      show ((w.setCell ⟨g, o + L.length * 1, none⟩ (.int .i64 x))).heap[g]? = _
      rw [Nat.mul_one]
      exact heap_setCell_same w g _ _ _ _ hg
    · rw [Array.getElem?_setIfInBounds]
      rcases Nat.lt_or_ge j L.length with hj | hj
      · rw [if_neg (by omega)]
        rw [List.getElem?_append_left hj] at hy
        exact hat j y hy
      · rw [List.getElem?_append_right hj] at hy
        have hj2 : j = L.length := by
          rcases Nat.lt_or_ge (j - L.length) 1 with h' | h'
          · omega
          · rw [List.getElem?_eq_none (by simpa using h')] at hy; cases hy
        subst hj2
        rw [Nat.sub_self] at hy
        have hxy : x = y := by simpa using hy
        rw [if_pos rfl, if_pos (by omega), hxy]
    · rw [hz1]
      refine ⟨?_, Or.inl rfl⟩
      show w.grownBy (w.setCell ⟨g, o + L.length * 1, none⟩ (.int .i64 x)) (some g)
      exact grown_set
  · obtain ⟨v2, w2, hr2, g1, g2⟩ := run_append_arg_grows (P := Try.prog) w 22 ty 3 i0 (.int .i64 0) 1 8 Try.underlying22 hi hz0 hz1 hz2 rfl (by decide) ⟨g, o, none⟩ L.length cap (Ri L) (by rw [ri_len]; omega) (fun j u hu => by
      unfold Ri at hu
      rw [List.getElem?_map] at hu
      cases hx : L[j]? with
      | none => rw [hx] at hu; cases hu
      | some y =>
        rw [hx] at hu
        obtain rfl := Option.some.inj hu
        rw [Addr.add_lit]
        simp [World.cell?, hg, hat j y hx]) ad 1 c (Ri [x]) (by rfl) hnew (by omega) (by unfold maxLen; omega) (by omega)
    have hw := g1
    refine ⟨v2, w2, hr2, ?_, ⟨g2.os, g2.tape, g2.output, g2.size, fun k hk hne => g2.block k hk (by simp)⟩, ?_⟩
    rotate_left
    · obtain ⟨g5, cap5, hv5, hb5, _⟩ := hw.form (by omega)
      exact Or.inr ⟨g5, by rw [hv5]; rfl, hb5⟩
    have g3 := own_leF g1 hB
    rw [← ri_app] at g3
    obtain ⟨g4, cap4, hv4, _, _⟩ := g3.form (by omega)
    subst hv4
    exact Tl.of_own g3
theorem wpList_append_tl {w : World} {ops : Array Oper} {rest : List Oper} {o : Oper} {a : Act} {Q : Exit → Act → World → Prop} (hgd : o.guard = none) (s x : Operand)
    (hop : o.op = Op.call { callee := Callee.builtin Builtin.append, args := #[s, x], argTypes := #[22, 22] })
    (B : Nat) (L : List Int) (y : Int) (v : Value) (ad : Addr) (c : Nat) (hs : a.eval s = v) (h : Tl B w L v) (hx : a.eval x = .slice (some ad) 1 c) (hrow : Row w w.heap.size (some ad) [y]) (hb : L.length + 1 ≤ 1000000) (hB : B ≤ w.heap.size)
    (hK : ∀ v' w', Tl B w' (L ++ [y]) v' → w.grownBy w' v.ownBlock → Lies w v v' → wpList Try.prog ops Q rest (a.put o.dst v') w') : wpList Try.prog ops Q (o :: rest) a w := by
  refine wpList_plain hgd fun K hK' => ?_
  obtain ⟨v', w', hrun, r1, r2, r3⟩ := run_append_tl o.type h y (c := c) hrow hb hB
  unfold Oper.wp
  simp [execOp, hop, resolve, invoke, builtin, hs, hx, hrun, Result.andThen]
  exact hK' _ _ (hK v' w' r1 r2 r3)

end Go.Proofs.Ytpghkdmljanncaa
