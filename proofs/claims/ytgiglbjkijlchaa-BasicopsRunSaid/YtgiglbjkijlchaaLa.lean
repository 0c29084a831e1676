/- Layer 42: the chapter's examples run. -/
import Derived.Test.YtgiglbjkijlchaaRv
namespace Go.Proofs.Ytgiglbjkijlchaa
open Go.ChangeShapes Go.WideShapes Go.ChangeAt Go.RowKit Go.PlainAid
set_option linter.unusedSimpArgs false
set_option linter.unusedVariables false

def exI (op a : Int) : In := ⟨op, a, 0, 0, none, 0, 0, [], none, 0, 0, [], ⟨#[]⟩, ⟨#[]⟩, ⟨#[]⟩, ⟨#[]⟩⟩
def exA (ls ss : List Va) (lA : Option Addr) (lc : Nat) (sA : Option Addr) (sc : Nat) : Ac := ⟨⟨0, 0, 0, 0, false, false⟩, ls, ss, lA, lc, sA, sc⟩
theorem exI_ok (op a : Int) (w : World) (B : Nat) : (exI op a).ok w B := ⟨rfl, Nat.le_refl _, by show 0 ≤ 9223372036854775807; omega, Or.inl rfl, rfl, Nat.le_refl _, by show 0 ≤ 9223372036854775807; omega, Or.inl rfl⟩
theorem ex_run : runS [exI 2 5, exI 12 0, exI 15 0] 9 ⟨⟨0, 0, 0, 0, false, false⟩, [], []⟩ = (⟨⟨0, 0, 3, 0, false, false⟩, [], [(1, 10)]⟩, 3, 0) := by kernel_rfl
theorem ex_div : execE (exI 18 0) ⟨⟨0, 0, 0, 0, false, false⟩, [], [(1, 1), (1, 0)]⟩ = 52 := by kernel_rfl
theorem ex_sto : execE (exI 7 0) ⟨⟨0, 0, 0, 0, false, false⟩, [(0, 0)], [(2, 0)]⟩ = 22 := by kernel_rfl
theorem ins_newV {W : World} {B : Nat} {cs : Array Value} {L : List In} {t : TypeId} (h : W.heap[B]? = some (.cells cs t)) (hok : ∀ i ∈ L, i.ok W W.heap.size)
    (hc : ∀ (k : Nat) (i : In), L[k]? = some i → cs[k * 10]? = some (.int .i64 i.op) ∧ cs[k * 10 + 1]? = some (.int .i64 i.a) ∧ cs[k * 10 + 2]? = some (.int .i64 i.b) ∧ cs[k * 10 + 3]? = some (.int .i64 i.t) ∧ cs[k * 10 + 4]? = some (.slice i.kA i.kn i.kc) ∧ cs[k * 10 + 5]? = some (.slice i.tA i.tn i.tc) ∧ cs[k * 10 + 6]? = some (.string i.r1) ∧ cs[k * 10 + 7]? = some (.string i.r2) ∧ cs[k * 10 + 8]? = some (.string i.r3) ∧ cs[k * 10 + 9]? = some (.string i.s)) : Ins W W.heap.size (some ⟨B, 0, none⟩) L := by
  refine Or.inr ⟨B, 0, rfl, lt_heapV h, fun k i hk => ?_⟩
  obtain ⟨c0, c1, c2, c3, c4, c5, c6, c7, c8, c9⟩ := hc k i hk
  refine ⟨hok i (List.mem_of_getElem? hk), ?_, ?_, ?_, ?_, ?_, ?_, ?_, ?_, ?_, ?_⟩ <;> rw [Nat.zero_add] <;> simp [World.cell?, h, *]
set_option maxRecDepth 100000 in
theorem run_ex {W : World} {B c : Nat} (h : W.heap[B]? = some (.cells #[.int .i64 2, .int .i64 5, .int .i64 0, .int .i64 0, .slice none 0 0, .slice none 0 0, .string ⟨#[]⟩, .string ⟨#[]⟩, .string ⟨#[]⟩, .string ⟨#[]⟩, .int .i64 12, .int .i64 0, .int .i64 0, .int .i64 0, .slice none 0 0, .slice none 0 0, .string ⟨#[]⟩, .string ⟨#[]⟩, .string ⟨#[]⟩, .string ⟨#[]⟩, .int .i64 15, .int .i64 0, .int .i64 0, .int .i64 0, .slice none 0 0, .slice none 0 0, .string ⟨#[]⟩, .string ⟨#[]⟩, .string ⟨#[]⟩, .string ⟨#[]⟩] 29)) :
    Calls Try.prog 15 #[.agg #[.int .i64 0, .int .i64 0, .int .i64 0, .slice none 0 0, .slice none 0 0, .int .i64 0, .bool false, .bool false], .slice (some ⟨B, 0, none⟩) 3 c, .int .i64 9] W (RuRet (exA [] [] none 0 none 0) W (⟨⟨0, 0, 3, 0, false, false⟩, [], [(1, 10)]⟩, 3, 0)) := by
  have hm : ∀ (P : In → Prop), P (exI 2 5) → P (exI 12 0) → P (exI 15 0) → ∀ i ∈ [exI 2 5, exI 12 0, exI 15 0], P i := by
    intro P p1 p2 p3 i hi
    simp only [List.mem_cons, List.not_mem_nil, or_false] at hi
    rcases hi with rfl | rfl | rfl
    · exact p1
    · exact p2
    · exact p3
  have hins : Ins W W.heap.size (some ⟨B, 0, none⟩) [exI 2 5, exI 12 0, exI 15 0] := by
    refine ins_newV h (hm (fun i => i.ok W W.heap.size) (exI_ok _ _ _ _) (exI_ok _ _ _ _) (exI_ok _ _ _ _)) (fun k i hk => ?_)
    rcases (by have := get_ltF hk; simp at this; omega : k = 0 ∨ k = 1 ∨ k = 2) with rfl | rfl | rfl
    all_goals
      obtain rfl := Option.some.inj hk
      exact ⟨rfl, rfl, rfl, rfl, rfl, rfl, rfl, rfl, rfl, rfl⟩
  have := run_any (exA [] [] none 0 none 0) [exI 2 5, exI 12 0, exI 15 0] (some ⟨B, 0, none⟩) 3 c 9 W ⟨Or.inl rfl, Or.inl rfl, ⟨Nat.le_refl _, fun _ => rfl⟩, ⟨Nat.le_refl _, fun _ => rfl⟩⟩ hins rfl (by omega)
    ⟨hm (fun i => i.kn ≤ 9223372036854775807) (Nat.zero_le _) (Nat.zero_le _) (Nat.zero_le _), hm (fun i => i.tn ≤ 9223372036854775807) (Nat.zero_le _) (Nat.zero_le _) (Nat.zero_le _), hm (fun i => Rg i.a) ⟨by decide, by decide⟩ ⟨by decide, by decide⟩ ⟨by decide, by decide⟩⟩
    (fun p hp => by cases hp) (fun p hp => by cases hp) (by show 0 ≤ 50000; omega) (by show 0 ≤ 50000; omega) (by omega)
  rw [show runS [exI 2 5, exI 12 0, exI 15 0] (9 : Int).toNat (exA [] [] none 0 none 0).sp = (⟨⟨0, 0, 3, 0, false, false⟩, [], [(1, 10)]⟩, 3, 0) from ex_run] at this
  exact this
theorem div_ex {W : World} {B c : Nat} (h : W.heap[B]? = some (.cells #[.int .i64 1, .int .i64 1, .int .i64 1, .int .i64 0] 42)) (hc : 2 ≤ c) :
    Calls Try.prog 10 #[.agg #[.int .i64 0, .int .i64 0, .int .i64 0, .slice none 0 0, .slice (some ⟨B, 0, none⟩) 2 c, .int .i64 0, .bool false, .bool false], .agg #[.int .i64 18, .int .i64 0, .int .i64 0, .int .i64 0, .slice none 0 0, .slice none 0 0, .string ⟨#[]⟩, .string ⟨#[]⟩, .string ⟨#[]⟩, .string ⟨#[]⟩]] W
      fun e w' => ∃ v, e = .returned (.tuple #[v, .int .i64 52]) ∧ Below W.heap.size W w' ∧ ∃ a' : Ac, v = a'.val := by
  have := exec_any (exA [] [(1, 1), (1, 0)] none 0 (some ⟨B, 0, none⟩) c) (exI 18 0) W ⟨Or.inl rfl, row_new (L := [(1, 1), (1, 0)]) h, ⟨Nat.le_refl _, fun _ => rfl⟩, ⟨hc, fun h => by cases h⟩⟩ (exI_ok _ _ _ _) (Nat.zero_le _) (by show 2 ≤ 100000; omega) (Nat.zero_le _) (Nat.zero_le _) ⟨by decide, by decide⟩ (fun p hp => by
    simp only [exA, List.mem_cons, List.not_mem_nil, or_false] at hp
    rcases hp with rfl | rfl <;> exact ⟨by decide, by decide⟩)
  exact this.mono fun e w' ⟨a', he, _, _, _, _, hb, _⟩ => ⟨a'.val, by rw [he]; exact congrArg (fun x => Ending.returned (.tuple #[a'.val, .int .i64 x])) ex_div, hb, a', rfl⟩
theorem sto_ex {W : World} {B B2 c c2 : Nat} (h : W.heap[B]? = some (.cells #[.int .i64 2, .int .i64 0] 42)) (hc : 1 ≤ c) (h2 : W.heap[B2]? = some (.cells #[.int .i64 0, .int .i64 0] 42)) (hc2 : 1 ≤ c2) :
    Calls Try.prog 10 #[.agg #[.int .i64 0, .int .i64 0, .int .i64 0, .slice (some ⟨B2, 0, none⟩) 1 c2, .slice (some ⟨B, 0, none⟩) 1 c, .int .i64 0, .bool false, .bool false], .agg #[.int .i64 7, .int .i64 0, .int .i64 0, .int .i64 0, .slice none 0 0, .slice none 0 0, .string ⟨#[]⟩, .string ⟨#[]⟩, .string ⟨#[]⟩, .string ⟨#[]⟩]] W
      fun e w' => ∃ v, e = .returned (.tuple #[v, .int .i64 22]) ∧ Below W.heap.size W w' ∧ ∃ a' : Ac, v = a'.val := by
  have := exec_any (exA [(0, 0)] [(2, 0)] (some ⟨B2, 0, none⟩) c2 (some ⟨B, 0, none⟩) c) (exI 7 0) W ⟨row_new (L := [(0, 0)]) h2, row_new (L := [(2, 0)]) h, ⟨hc2, fun h => by cases h⟩, ⟨hc, fun h => by cases h⟩⟩ (exI_ok _ _ _ _) (by show 1 ≤ 100000; omega) (by show 1 ≤ 100000; omega) (Nat.zero_le _) (Nat.zero_le _) ⟨by decide, by decide⟩ (fun p hp => by
    simp only [exA, List.mem_cons, List.not_mem_nil, or_false] at hp
    subst hp; exact ⟨by decide, by decide⟩)
  exact this.mono fun e w' ⟨a', he, _, _, _, _, hb, _⟩ => ⟨a'.val, by rw [he]; exact congrArg (fun x => Ending.returned (.tuple #[a'.val, .int .i64 x])) ex_sto, hb, a', rfl⟩
end Go.Proofs.Ytgiglbjkijlchaa
