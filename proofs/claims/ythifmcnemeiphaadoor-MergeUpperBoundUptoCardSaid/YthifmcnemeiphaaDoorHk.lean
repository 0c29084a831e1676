/- Layer 16: rows of strings: Has, append; the reference's next. -/
import Derived.Test.YthifmcnemeiphaaDoorHh
import Derived.Laws.AppendOwnNone
namespace Go.Proofs.YthifmcnemeiphaaDoor
open Go.ChangeShapes Go.WideShapes Go.ChangeAt Go.RowKit Go.PlainAid Go.Maps
set_option linter.unusedSimpArgs false
set_option linter.unusedVariables false

def hasL (L : List ByteArray) (s : ByteArray) : Bool := L.any fun x => x.toList == s.toList
theorem hasL_iff {L : List ByteArray} {s : ByteArray} : hasL L s = true ↔ s ∈ L := by
  unfold hasL
  rw [List.any_eq_true]
  constructor
  · rintro ⟨x, hx, h⟩
    have := toList_iff.1 (beq_iff_eq.1 h)
    rwa [← this]
  · intro h; exact ⟨s, h, by simp⟩
theorem hasL_no {L : List ByteArray} {s : ByteArray} (h : ∀ j (hj : j < L.length), ¬ L[j].toList = s.toList) : hasL L s = false := by
  cases hh : hasL L s with
  | false => rfl
  | true =>
    obtain ⟨j, hj, he⟩ := List.getElem_of_mem (hasL_iff.1 hh)
    exact absurd (by rw [he]) (h j hj)
set_option maxHeartbeats 1000000 in
theorem has_any (A : Option Addr) (n c : Nat) (L : List ByteArray) (s : ByteArray) (w : World) (hn : L.length = n) (hc : n ≤ 9223372036854775807) (h : SRow w w.heap.size A L) :
    Calls Tryd.prog 59 #[.slice A n c, .string s] w fun e w' => e = .returned (.bool (hasL L s)) ∧ Below w.heap.size w w' := by
  have HL := Lib.hid h
  have HN := Lib.hid hn
  clear h hn
  go_enter Tryd.func59, Tryd.ntmps59
  go_wp2
  go_loop [5] (fun i => ∃ k : Nat, k ≤ n ∧ i = .int .i64 k ∧ Hid (∀ j (hj : j < k) (hl : j < L.length), ¬ L[j].toList = s.toList)) (fun i => n - (intOf i).toNat)
  case atStart => exact ⟨0, Nat.zero_le _, rfl, Lib.hid fun j hj => absurd hj (Nat.not_lt_zero _)⟩
  case round =>
    obtain ⟨k, hk, rfl, hv⟩ := hrel
    by_cases hlt : k < n
    · have hkl : k < L.length := by rw [HN.out]; exact hlt
      obtain ⟨g, o, rfl, hg, hcl⟩ := HL.out.at (by omega)
      have c0 := hcl k hkl
      clear hcl
      by_cases hq : L[k].toList = s.toList
      · have HR := Lib.hid (hasL_iff.2 (show s ∈ L by rw [← toList_iff.1 hq]; exact List.getElem_mem hkl))
        go_wp2
        go_ret
        exact ⟨ret_bool HR.out.symm, Below.refl _ _⟩
      · have HV := Lib.hid (show ∀ j (hj : j < k + 1) (hl : j < L.length), ¬ L[j].toList = s.toList from fun j hj hl => by
          rcases Nat.lt_or_ge j k with h | h
          · exact hv.out j h hl
          · obtain rfl : j = k := by omega
            exact hq)
        have hne : (L[k].toList == s.toList) = false := by simpa using hq
        clear hq
        go_wp2
        go_round
        case rel => exact ⟨k + 1, by omega, by go_num, HV⟩
        case measure => simp [intOf]; omega
    · obtain rfl : k = n := by omega
      have HR := Lib.hid (hasL_no (L := L) (s := s) fun j hj => hv.out j (by rw [← HN.out]; exact hj) hj)
      go_wp2
      go_ret
      exact ⟨ret_bool HR.out.symm, Below.refl _ _⟩

def strs (xs : List ByteArray) : List Value := xs.map Value.string
theorem strs_len (xs : List ByteArray) : (strs xs).length = xs.length := List.length_map _
theorem strs_app (xs ys : List ByteArray) : strs (xs ++ ys) = strs xs ++ strs ys := List.map_append
theorem strs_one (L : List ByteArray) : ∀ u ∈ strs L, u.oneCell' = true := by
  intro u hu
  obtain ⟨x, _, rfl⟩ := List.mem_map.1 hu
  rfl
theorem infoS : (Tryd.prog.info? 9).map (fun i => (i.zero, i.size, i.bytes)) = some (some (.string ⟨#[]⟩), 1, 16) := by kernel_rfl
theorem SRow.news {w : World} {B : Nat} {ad : Addr} {L : List ByteArray} (h : SRow w B (some ad) L) : ∀ j u, (strs L)[j]? = some u → w.cell? (ad.add j) = some u := by
  intro j u hu
  rcases h with rfl | ⟨g, o, hA, hg, hc⟩
  · simp [strs] at hu
  · obtain rfl : ad = ⟨g, o, none⟩ := by injection hA
    unfold strs at hu
    rw [List.getElem?_map] at hu
    cases hx : L[j]? with
    | none => rw [hx] at hu; cases hu
    | some x =>
      rw [hx] at hu
      injection hu with hu
      rw [← hu]
      have := hc j x hx
      rcases Nat.eq_zero_or_pos j with rfl | hj
      · simpa [Addr.add] using this
      · have : j ≠ 0 := by omega
        simpa [Addr.add, this] using hc j x hx
theorem SRow.of_own {w : World} {base n c : Nat} {A : Option Addr} {L : List ByteArray} (h : w.ownsRow base 9 1 (.slice A n c) n (strs L)) : SRow w w.heap.size A L ∧ L.length = n := by
  have hn : L.length = n := by have := h.1; rw [strs_len] at this; omega
  refine ⟨?_, hn⟩
  rcases h.2 with ⟨hv, h0⟩ | ⟨g, cap, cur, hv, h0, h1, h2, h3, h4, h5⟩
  · left; cases L with | nil => rfl | cons _ _ => simp at hn; omega
  · have hA : A = some ⟨g, 0, none⟩ := by injection hv
    obtain rfl : c = cap := by injection hv
    subst hA
    refine Or.inr ⟨g, 0, rfl, lt_heap h1, fun j y hj => ?_⟩
    have hjl : j < L.length := by
      rcases Nat.lt_or_ge j L.length with h | h
      · exact h
      · rw [List.getElem?_eq_none h] at hj; cases hj
    rw [Nat.zero_add, h.cellAt j (by omega)]
    unfold strs
    rw [List.getElem?_map, hj]; rfl
theorem wpList_append_strs {w : World} {ops : Array Oper} {rest : List Oper} {o : Oper} {a : Act} {Q : Exit → Act → World → Prop} (hg : o.guard = none) (s x : Operand)
    (hop : o.op = Op.call { callee := Callee.builtin Builtin.append, args := #[s, x], argTypes := #[28, 28] })
    (base n m c B : Nat) (xs L : List ByteArray) (v : Value) (A : Option Addr) (hs : a.eval s = v) (hown : w.ownsRow base 9 1 v n (strs xs)) (hx : a.eval x = .slice A m c)
    (hrow : SRow w B A L) (hl : L.length = m) (hnil : A = none → c = 0) (hb : n + m ≤ 8796093022208) (hbase : base ≤ w.heap.size)
    (h : ∀ v' w', w'.ownsRow base 9 1 v' (n + m) (strs (xs ++ L)) → w.grownBy w' v.ownBlock → wpList Tryd.prog ops Q rest (a.put o.dst v') w') : wpList Tryd.prog ops Q (o :: rest) a w := by
  obtain ⟨i0, hi, hz0, hz1, hz2⟩ := info_parts infoS
  cases A with
  | none =>
    obtain rfl : c = 0 := hnil rfl
    obtain rfl : L = [] := by
      rcases hrow with h | ⟨g, o, hA, _⟩
      · exact h
      · cases hA
    obtain rfl : m = 0 := hl.symm
    exact wpList_append_own_none hg s x 28 hop base 9 i0 1 Tryd.underlying28 hi v n (strs xs) hs hown hx (h v w (by rw [List.append_nil]; exact hown) (World.grownBy.refl _ _))
  | some ad =>
    refine _root_.Go.wpList_append_own (w := w) hg s x 28 hop base 9 i0 (.string ⟨#[]⟩) 1 16 Tryd.underlying28 hi hz0 hz1 hz2 rfl (by decide) v n (strs xs) hs hown ad m c (strs L) hx (by rw [strs_len]; omega) hrow.news (strs_one L) (by unfold maxLen; omega) (by omega) hbase ?_
    intro v' w' h1 h2 _
    exact h v' w' (by rw [strs_app]; exact h1) h2
end Go.Proofs.YthifmcnemeiphaaDoor
