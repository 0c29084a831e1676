/- Layer 8: an instruction's bytes are as many as its size says, pure. -/
import Derived.Test.YtpghkdmljanncaaInLx
namespace Go.Proofs.Ytpghkdmljanncaa
set_option linter.unusedSimpArgs false
set_option linter.unusedVariables false

theorem putB_len {n z : Int} (hz : okSize z) (hf : fitsP n z) : ((putB n z).size : Int) = z := by
  unfold putB
  rw [if_pos ⟨hz, hf⟩, strOfNums_size, putL_len n z hz]
  rcases hz with rfl | rfl | rfl | rfl <;> rfl
theorem kind_op {o : Int} (h : 0 ≤ kindV o) : 0 ≤ o ∧ o ≤ 80 := by
  unfold kindV at h
  repeat' split at h
  all_goals first | omega | (constructor <;> omega)
theorem ok1 : okSize 1 := Or.inl rfl
theorem ok2 : okSize 2 := Or.inr (Or.inl rfl)
theorem ok4 : okSize 4 := Or.inr (Or.inr (Or.inl rfl))
theorem fit1 {n : Int} (h : -128 ≤ n ∧ n ≤ 255) : fitsP n 1 := Or.inr (Or.inl ⟨rfl, h.1, h.2⟩)
theorem fit2b {n : Int} (h : -32768 ≤ n ∧ n ≤ 65535) : fitsP n 2 := Or.inr (Or.inr (Or.inl ⟨rfl, h.1, h.2⟩))
theorem fit4 {n : Int} (h : -2147483648 ≤ n ∧ n ≤ 4294967295) : fitsP n 4 := Or.inr (Or.inr (Or.inr ⟨rfl, h.1, h.2⟩))
/-- the offsets fit two bytes -/
def PlOk (P : List Int) : Prop := ∀ x ∈ P, 0 ≤ x ∧ x ≤ 65535
theorem plN_bd {P : List Int} (h : PlOk P) (x : Int) : 0 ≤ plN P x ∧ plN P x ≤ 65535 := by
  unfold plN
  rw [List.getD_eq_getElem?_getD]
  cases hx : P[x.toNat]? with
  | none => simp
  | some y => exact h y (List.mem_of_getElem? hx)
theorem pl_len {P : List Int} (h : PlOk P) (x : Int) : ((putB (plN P x) 2).size : Int) = 2 := putB_len ok2 (fit2b (by have := plN_bd h x; omega))
theorem tsF_len {P : List Int} (h : PlOk P) : ∀ (l : List Int) (b : ByteArray), ((tsF P b l).size : Int) = b.size + 2 * l.length
  | [], b => by simp [tsF]
  | x :: l, b => by
    have h1 := tsF_len h l (b ++ putB (plN P x) 2)
    have h2 := pl_len h x
    rw [ByteArray.size_append] at h1
    show ((tsF P (b ++ putB (plN P x) 2) l).size : Int) = _
    rw [h1]
    simp only [List.length_cons]
    push_cast
    omega
theorem ksF_len {P : List Int} (h : PlOk P) : ∀ (l : List (Int × Int)) (b : ByteArray), (∀ x ∈ l, k32 x.1 = true) → ((ksF P b l).size : Int) = b.size + 6 * l.length
  | [], b, _ => by simp [ksF]
  | x :: l, b, hk => by
    have h1 := ksF_len h l (b ++ putB x.1 4 ++ putB (plN P x.2) 2) (fun y hy => hk y (List.mem_cons_of_mem _ hy))
    have h2 := pl_len h x.2
    have h3 : ((putB x.1 4).size : Int) = 4 := putB_len ok4 (fit4 (by have := k32_iff.1 (hk x List.mem_cons_self); omega))
    rw [ByteArray.size_append, ByteArray.size_append] at h1
    show ((ksF P (b ++ putB x.1 4 ++ putB (plN P x.2) 2) l).size : Int) = _
    rw [h1]
    simp only [List.length_cons]
    push_cast
    omega
theorem valid_ks {i : In} (h : ciE i = 0) (h7 : kindV i.op = 7) : i.ks.all k32 = true := by
  have h2 := (valid_parts h).2.2
  rw [h7] at h2
  unfold ciK at h2
  simp at h2
  by_cases hg : tgB i = true
  · rw [if_pos hg] at h2; omega
  · rw [if_neg hg] at h2
    unfold ksE at h2
    by_cases h9 : 64 < i.kn ∨ i.tn ≠ i.kn
    · rw [if_pos h9] at h2; omega
    · rw [if_neg h9] at h2
      by_cases h8 : i.ks.all k32 = true
      · exact h8
      · rw [if_neg h8] at h2; omega
theorem valid_k6 {i : In} (h : ciE i = 0) (h6 : kindV i.op = 6) : k32 i.a = true := by
  have h2 := (valid_parts h).2.2
  rw [h6] at h2
  unfold ciK at h2
  simp at h2
  by_cases hg : tgB i = true
  · rw [if_pos hg] at h2; omega
  · rw [if_neg hg] at h2
    unfold tsE at h2
    by_cases h9 : i.tn = 0 ∨ 64 < i.tn
    · rw [if_pos h9] at h2; omega
    · rw [if_neg h9] at h2
      by_cases h8 : k32 i.a = true ∧ k32 (i.a + i.tn - 1) = true
      · exact h8.1
      · rw [if_neg h8] at h2; omega
theorem opB_len {P : List Int} {i : In} (hv : ciE i = 0) (hp : PlOk P) (hk : i.ks.length = i.kn) (ht : i.ts.length = i.tn) : ((opB P i).size : Int) = szV i := by
  obtain ⟨h0, h1, h2⟩ := valid_parts hv
  have hop := kind_op h0
  have s1 : ((putB i.op 1).size : Int) = 1 := putB_len ok1 (fit1 (by omega))
  have st := pl_len hp i.t
  have hb := szV_bd hv
  have n53 : kindV i.op ≠ 6 → i.op ≠ 53 := fun h e => h (kind6.2 e)
  have n54 : kindV i.op ≠ 7 → i.op ≠ 54 := fun h e => h (kind7.2 e)
  unfold opB
  rcases kind_bd i.op with k | k | k | k | k | k | k | k | k
  · omega
  · rw [k] at n53 n54
    have hz : szV i = 1 := by unfold szV; rw [if_neg (n53 (by decide)), if_neg (n54 (by decide))]; unfold sizeV; rw [k]; rfl
    rw [k, hz]; exact s1
  · rw [k] at n53 n54 h2
    have hz : szV i = 2 := by unfold szV; rw [if_neg (n53 (by decide)), if_neg (n54 (by decide))]; unfold sizeV; rw [k]; rfl
    have ha : -128 ≤ i.a ∧ i.a ≤ 255 := by unfold ciK at h2; rw [if_pos rfl] at h2; split at h2 <;> omega
    have s2 : ((putB i.a 1).size : Int) = 1 := putB_len ok1 (fit1 ha)
    rw [k, hz]
    show (((putB i.op 1 ++ putB i.a 1).size : Nat) : Int) = 2
    rw [ByteArray.size_append]; omega
  · rw [k] at n53 n54 h2
    have hz : szV i = 3 := by unfold szV; rw [if_neg (n53 (by decide)), if_neg (n54 (by decide))]; unfold sizeV; rw [k]; rfl
    have ha : -32768 ≤ i.a ∧ i.a ≤ 65535 := by unfold ciK at h2; simp at h2; omega
    have s2 : ((putB i.a 2).size : Int) = 2 := putB_len ok2 (fit2b ha)
    rw [k, hz]
    show (((putB i.op 1 ++ putB i.a 2).size : Nat) : Int) = 3
    rw [ByteArray.size_append]; omega
  · rw [k] at n53 n54
    have hz : szV i = 3 := by unfold szV; rw [if_neg (n53 (by decide)), if_neg (n54 (by decide))]; unfold sizeV; rw [k]; rfl
    rw [k, hz]
    show (((putB i.op 1 ++ putB (plN P i.t) 2).size : Nat) : Int) = 3
    rw [ByteArray.size_append]; omega
  · rw [k] at n53 n54 h2
    have hz : szV i = 2 := by unfold szV; rw [if_neg (n53 (by decide)), if_neg (n54 (by decide))]; unfold sizeV; rw [k]; rfl
    have ha : -128 ≤ i.a ∧ i.a ≤ 255 := by unfold ciK at h2; simp at h2; omega
    have s2 : ((putB i.a 1).size : Int) = 1 := putB_len ok1 (fit1 ha)
    rw [k, hz]
    show (((putB i.op 1 ++ putB i.a 1).size : Nat) : Int) = 2
    rw [ByteArray.size_append]; omega
  · rw [k] at n53 n54 h2
    have hz : szV i = 3 := by unfold szV; rw [if_neg (n53 (by decide)), if_neg (n54 (by decide))]; unfold sizeV; rw [k]; rfl
    unfold ciK at h2
    simp at h2
    have ha : -128 ≤ i.a ∧ i.a ≤ 255 := by split at h2 <;> omega
    have hb' : -128 ≤ i.b ∧ i.b ≤ 255 := by split at h2 <;> omega
    have s2 : ((putB i.a 1).size : Int) = 1 := putB_len ok1 (fit1 ha)
    have s3 : ((putB i.b 1).size : Int) = 1 := putB_len ok1 (fit1 hb')
    rw [k, hz]
    show (((putB i.op 1 ++ putB i.a 1 ++ putB i.b 1).size : Nat) : Int) = 3
    rw [ByteArray.size_append, ByteArray.size_append]; omega
  · have h53 := kind6.1 k
    have hz : szV i = 9 + 2 * (i.tn : Int) := by unfold szV; rw [if_pos h53]
    have ha := k32_iff.1 (valid_k6 hv k)
    have htn := valid_tn hv
    have s2 : ((putB i.a 4).size : Int) = 4 := putB_len ok4 (fit4 (by omega))
    have s3 : ((putB (i.tn : Int) 2).size : Int) = 2 := putB_len ok2 (fit2b (by omega))
    rw [k, hz]
    show ((tsF P (st6 P i) i.ts).size : Int) = _
    rw [tsF_len hp, ht]
    unfold st6
    simp only [ByteArray.size_append]
    push_cast
    omega
  · have h54 := kind7.1 k
    have hz : szV i = 5 + 6 * (i.kn : Int) := by unfold szV; rw [if_neg (by omega), if_pos h54]
    have hkn := hb.2.2.2 h54
    have s3 : ((putB (i.kn : Int) 2).size : Int) = 2 := putB_len ok2 (fit2b (by omega))
    have hall := valid_ks hv k
    rw [k, hz]
    show ((ksF P (st7 P i) (i.ks.zip i.ts)).size : Int) = _
    rw [ksF_len hp _ _ (fun x hx => List.all_eq_true.1 hall x.1 (List.of_mem_zip hx).1), List.length_zip]
    unfold st7
    simp only [ByteArray.size_append]
    push_cast
    omega
theorem enP_len {P : List Int} (hp : PlOk P) {L : List In} (hv : ∀ i ∈ L, ciE i = 0 ∧ i.ks.length = i.kn ∧ i.ts.length = i.tn) : ∀ k, k ≤ L.length → ((enP P (L.take k)).size : Int) = atN L k := by
  intro k
  induction k with
  | zero => intro _; rfl
  | succ k ih =>
    intro hk
    have hx := List.getElem?_eq_getElem (show k < L.length by omega)
    have hm := hv _ (List.mem_of_getElem? hx)
    rw [enP_take hx, atN_succ hx, ByteArray.size_append]
    have h1 := ih (by omega)
    have h2 := opB_len hm.1 hp hm.2.1 hm.2.2
    push_cast
    omega
theorem ofP_ok {L : List In} (h : ofE L = 0) : PlOk (ofP L) := by
  obtain ⟨h1, h2, h3, h4⟩ := of_ok h
  rw [h4]
  intro x hx
  unfold ofN at hx
  obtain ⟨j, hj, rfl⟩ := List.mem_map.1 hx
  have hj2 : j < L.length + 1 := List.mem_range.1 hj
  have hb := atN_bd (L := L) j (by omega) (fun j i _ hi => chkE_all h1 j i hi)
  refine ⟨by omega, ?_⟩
  rcases (by omega : j = L.length ∨ j < L.length) with rfl | hlt
  · omega
  · have := atN_lt h1 (L.length - j - 1) j (by omega)
    rw [show j + (L.length - j - 1) + 1 = L.length by omega] at this
    omega
theorem ofP_at {L : List In} (h : ofE L = 0) {k : Nat} (hk : k ≤ L.length) : (ofP L)[k]? = some (atN L k) := by
  rw [(of_ok h).2.2.2]
  unfold ofN
  rw [List.getElem?_map, List.getElem?_range (by omega)]; rfl
theorem ia_at {L : List In} (h : ofE L = 0) {k : Nat} (hk : k ≤ L.length) : iaN L (atN L k) = k ∧ iaE L (atN L k) = 0 := by
  have hm := List.mem_of_getElem? (ofP_at h hk)
  have hl : (ofP L).length = L.length + 1 := by rw [(of_ok h).2.2.2, ofN_len]
  have hx : (ofP L).idxOf (atN L k) = k := by
    refine (wh_at (M := ofP L) (x := atN L k) (k := k) ?_ (by omega) ?_).2
    · intro j hj
      rw [List.getD_eq_getElem?_getD, ofP_at h (by omega)]
      have := atN_lt (of_ok h).1 (k - j - 1) j (by omega)
      rw [show j + (k - j - 1) + 1 = k by omega] at this
      simp only [Option.getD_some]
      omega
    · rw [List.getD_eq_getElem?_getD, ofP_at h hk]; rfl
  unfold iaN iaE
  rw [if_pos h, if_pos h, if_pos hm, if_pos hm, hx]
  exact ⟨rfl, rfl⟩
theorem enS_len {L : List In} (h : enE L = 0) (hv : ∀ i ∈ L, i.ks.length = i.kn ∧ i.ts.length = i.tn) : ((enS L).size : Int) = atN L L.length := by
  have h0 : ofE L = 0 := by
    by_cases h1 : ofE L = 0
    · exact h1
    · have := (en_1 h1).1; omega
  have hs : enS L = enP (ofP L) L := by unfold enS; rw [if_pos h]
  have := enP_len (ofP_ok h0) (L := L) (fun i hi => by
    obtain ⟨j, hj, he⟩ := List.getElem_of_mem hi
    exact ⟨chkE_all (of_ok h0).1 j i (by rw [List.getElem?_eq_getElem hj, he]), hv i hi⟩) L.length (Nat.le_refl _)
  rw [List.take_of_length_le (Nat.le_refl _)] at this
  rw [hs]; exact this

end Go.Proofs.Ytpghkdmljanncaa
