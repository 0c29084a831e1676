/- Layer 8: Encode, in the package. -/
import Derived.Test.YtpghkdmljanncaaInEno
import Derived.Test.YtpghkdmljanncaaInIx
namespace Go.Proofs.Ytpghkdmljanncaa
open Go.ChangeShapes Go.WideShapes Go.ChangeAt Go.RowKit Go.PlainAid
set_option linter.unusedSimpArgs false
set_option linter.unusedVariables false

/-- what a valid instruction is -/
theorem valid_parts {i : In} (h : ciE i = 0) : 0 ≤ kindV i.op ∧ unB (kindV i.op) i = false ∧ ciK (kindV i.op) i = 0 := by
  rw [ci_eq] at h
  by_cases h1 : kindV i.op < 0
  · rw [if_pos h1] at h; omega
  · rw [if_neg h1] at h
    cases h2 : unB (kindV i.op) i with
    | true => rw [h2, if_pos rfl] at h; omega
    | false => rw [h2, if_neg (by simp)] at h; exact ⟨by omega, rfl, h⟩
theorem valid_tn {i : In} (h : ciE i = 0) : i.tn ≤ 64 := by
  obtain ⟨h0, h1, h2⟩ := valid_parts h
  rcases kind_bd i.op with k | k | k | k | k | k | k | k | k
  · omega
  all_goals try (rw [k] at h1; simp [unB] at h1; omega)
  · have := (szV_bd h).2.2.1 (kind6.1 k); omega
  · have := ((szV_bd h).2.2.2 (kind7.1 k)); omega
theorem valid_tg {i : In} (h : ciE i = 0) : ∀ x ∈ tgL i, 0 ≤ x ∧ x < 1000 := by
  obtain ⟨h0, h1, h2⟩ := valid_parts h
  have key : tgB i = false → ∀ x ∈ i.t :: i.ts, 0 ≤ x ∧ x < 1000 := by
    intro hg x hx
    unfold tgB at hg
    rw [Bool.or_eq_false_iff] at hg
    have hb : btB x = false := by
      rcases List.mem_cons.1 hx with rfl | hx
      · exact hg.1
      · have := hg.2
        rw [List.any_eq_false] at this
        simpa using this x hx
    have := of_decide_eq_false hb
    omega
  intro x hx
  rcases kind_bd i.op with k | k | k | k | k | k | k | k | k
  · omega
  all_goals first | (exfalso; revert hx; unfold tgL; rw [if_neg]; · simp
                     · unfold kindV at k; unfold brB; repeat' split at k
                       all_goals first | omega | (simp; omega)) | skip
  all_goals
    rw [k] at h2
    rw [tg_kind (by omega)] at hx
    refine key ?_ x hx
    cases hg : tgB i with
    | false => rfl
    | true => simp [ciK, hg] at h2
theorem eno_any (B b : Nat) (bs : List Value) (i : In) (P : List Int) (A : Option Addr) (m c : Nat) (w : World) (hv : ciE i = 0) (hlt : b < w.heap.size) (h : Lib.IsBuilder 76 5 B b bs w) (hbs : bs.length ≤ 1000000000) (hBw : B ≤ w.heap.size)
    (hP : Row w B A P) (hm : P.length = m) (hok : i.ok w B) (hT : TgOk P i) : Calls Try.prog 61 #[.pointer (some ⟨b, 0, none⟩), (Value.agg #[Value.int IntKind.i64 (In.op i), Value.int IntKind.i64 (In.a i), Value.int IntKind.i64 (In.b i), Value.int IntKind.i64 (In.t i), Value.slice (In.kA i) (In.kn i) (In.kc i), Value.slice (In.tA i) (In.tn i) (In.tc i), Value.string (In.r1 i), Value.string (In.r2 i), Value.string (In.r3 i), Value.string (In.s i)]), .slice A m c] w (EnRet w B b bs (opB P i)) := by
  have h7 : kindV i.op = 7 → i.tn = i.kn := fun k => ((szV_bd hv).2.2.2 (kind7.1 k)).2
  have ht : i.tn ≤ 100 := by have := valid_tn hv; omega
  rcases kind_bd i.op with k | k | k | k | k | k | k | k | k
  · have := (valid_parts hv).1; omega
  · exact eno_0 B b bs i P A m c w k hlt h hbs hBw hP hm hok hT h7 ht
  · exact eno_1 B b bs i P A m c w k hlt h hbs hBw hP hm hok hT h7 ht
  · exact eno_2 B b bs i P A m c w k hlt h hbs hBw hP hm hok hT h7 ht
  · exact eno_3 B b bs i P A m c w k hlt h hbs hBw hP hm hok hT h7 ht
  · exact eno_4 B b bs i P A m c w k hlt h hbs hBw hP hm hok hT h7 ht
  · exact eno_5 B b bs i P A m c w k hlt h hbs hBw hP hm hok hT h7 ht
  · exact eno_6 B b bs i P A m c w k hlt h hbs hBw hP hm hok hT h7 ht
  · exact eno_7 B b bs i P A m c w k hlt h hbs hBw hP hm hok hT h7 ht

/-- every target is an instruction's index -/
def tgA (L : List In) : Bool := L.all (fun i => (tgL i).all (fun x => decide (x < L.length)))
def enP (P : List Int) (L : List In) : ByteArray := L.foldl (fun b i => b ++ opB P i) ⟨#[]⟩
def enE (L : List In) : Int := if ofE L = 0 then (if tgA L = true then 0 else 16) else ofE L
def enS (L : List In) : ByteArray := if enE L = 0 then enP (ofP L) L else ⟨#[]⟩
theorem en_1 {L : List In} (h : ofE L ≠ 0) : enE L = ofE L ∧ enS L = ⟨#[]⟩ := by
  have : enE L = ofE L := if_neg h
  exact ⟨this, by unfold enS; rw [this, if_neg h]⟩
theorem en_2 {L : List In} (h : ofE L = 0) (h2 : tgA L = false) : enE L = 16 ∧ enS L = ⟨#[]⟩ := by
  have : enE L = 16 := by unfold enE; rw [if_pos h, h2]; rfl
  exact ⟨this, by unfold enS; rw [this]; rfl⟩
theorem en_3 {L : List In} (h : ofE L = 0) (h2 : tgA L = true) : enE L = 0 ∧ enS L = enP (ofP L) L := by
  have : enE L = 0 := by unfold enE; rw [if_pos h, h2]; rfl
  exact ⟨this, by unfold enS; rw [this]; rfl⟩
theorem enP_snoc (P : List Int) (L : List In) (i : In) : enP P (L ++ [i]) = enP P L ++ opB P i := by unfold enP; rw [List.foldl_append]; rfl
theorem enP_take {P : List Int} {L : List In} {k : Nat} {i : In} (h : L[k]? = some i) : enP P (L.take (k + 1)) = enP P (L.take k) ++ opB P i := by rw [take_snoc h, enP_snoc]
theorem enP_size (P : List Int) : ∀ (L : List In), (∀ i ∈ L, i.ts.length ≤ 100 ∧ i.ks.length ≤ 100) → ∀ b : ByteArray, (L.foldl (fun b i => b ++ opB P i) b).size ≤ b.size + 2000 * L.length
  | [], _, b => by simp
  | i :: r, h, b => by
    have ih := enP_size P r (fun j hj => h j (List.mem_cons_of_mem _ hj)) (b ++ opB P i)
    have := opB_size P i (h i List.mem_cons_self).1 (h i List.mem_cons_self).2
    rw [ByteArray.size_append] at ih
    simp only [List.foldl_cons, List.length_cons]
    omega
theorem tgA_at {L : List In} (h : tgA L = true) {i : In} (hi : i ∈ L) : ∀ x ∈ tgL i, x < L.length := by
  intro x hx
  unfold tgA at h
  rw [List.all_eq_true] at h
  have := h i hi
  rw [List.all_eq_true] at this
  exact of_decide_eq_true (this x hx)
theorem tgA_yes {L : List In} (h : ∀ (j : Nat) (i : In), L[j]? = some i → ∀ x ∈ tgL i, x < L.length) : tgA L = true := by
  unfold tgA
  rw [List.all_eq_true]
  intro i hi
  rw [List.all_eq_true]
  intro x hx
  obtain ⟨j, hj, he⟩ := List.getElem_of_mem hi
  exact decide_eq_true (h j i (by rw [List.getElem?_eq_getElem hj, he]) x hx)
theorem tgA_no {L : List In} {k j : Nat} {i : In} {x : Int} (h : L[k]? = some i) (hx : (tgL i)[j]? = some x) (hn : ¬ x < L.length) : tgA L = false := by
  rw [Bool.eq_false_iff]
  intro ht
  exact hn (tgA_at ht (List.mem_of_getElem? h) x (List.mem_of_getElem? hx))

end Go.Proofs.Ytpghkdmljanncaa
