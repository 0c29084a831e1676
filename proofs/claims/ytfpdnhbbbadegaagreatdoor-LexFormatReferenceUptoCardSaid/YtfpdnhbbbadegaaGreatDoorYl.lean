/- Layer 53: strings.FieldsSeq's iterator, on a text of ASCII bytes: the words one behind the other. -/
import Derived.Test.YtfpdnhbbbadegaaGreatDoorYk
import Derived.Test.YtfpdnhbbbadegaaGreatDoorRange
namespace Go.Proofs.YtfpdnhbbbadegaaGreatDoor
open Go.ChangeShapes Go.WideShapes Go.ChangeAt Go.RowKit Go.PlainAid Go.Shelf
set_option linter.unusedSimpArgs false
set_option linter.unusedVariables false
attribute [local go_sem] Oper.semAt_some

/-- the words of a text, the first bytes of the first word being cur -/
def fsq : List UInt8 → List UInt8 → List (List UInt8)
  | cur, [] => if cur = [] then [] else [cur]
  | cur, c :: r => if Lib.isSp c = true then (if cur = [] then fsq [] r else cur :: fsq [] r) else fsq (cur ++ [c]) r
def opT : ByteArray := ⟨#[62, 62, 62, 32, 60, 60, 32, 62, 62, 32, 61, 61, 32, 33, 61, 32, 60, 61, 32, 62, 61, 32, 38, 38, 32, 124, 124, 32, 123, 32, 125, 32, 40, 32, 41, 32, 91, 32, 93, 32, 59, 32, 44, 32, 46, 32, 61, 32, 43, 32, 45, 32, 42, 32, 47, 32, 37, 32, 38, 32, 124, 32, 94, 32, 33, 32, 60, 32, 62]⟩
theorem op_fsq : fsq [] opT.data.toList = opL := by decide +kernel
theorem op_ascii : ∀ b ∈ opT.data.toList, b.toNat < 128 := by decide +kernel
theorem fsq_sp0 {c : UInt8} {r : List UInt8} (h : Lib.isSp c = true) : fsq [] (c :: r) = fsq [] r := by rw [fsq, if_pos h, if_pos rfl]
theorem fsq_sp1 {cur : List UInt8} {c : UInt8} {r : List UInt8} (h : Lib.isSp c = true) (hc : cur ≠ []) : fsq cur (c :: r) = cur :: fsq [] r := by rw [fsq, if_pos h, if_neg hc]
theorem fsq_no {cur : List UInt8} {c : UInt8} {r : List UInt8} (h : Lib.isSp c = false) : fsq cur (c :: r) = fsq (cur ++ [c]) r := by rw [fsq, if_neg (by rw [h]; decide)]
theorem fsq_end {cur : List UInt8} (hc : cur ≠ []) : fsq cur [] = [cur] := by rw [fsq, if_neg hc]
theorem cur_step {l r : List UInt8} {m k : Nat} {c : UInt8} (hm : m < k) (hd : l.drop k = c :: r) : (l.drop m).take (k - m) ++ [c] = (l.drop m).take (k + 1 - m) := by
  rw [show k + 1 - m = (k - m) + 1 by omega, List.take_add_one, List.getElem?_drop, show m + (k - m) = k by omega]
  have h : l[k]? = some c := by rw [← List.head?_drop, hd]; rfl
  rw [h]; rfl
theorem cur_ne {l : List UInt8} {m k : Nat} (hm : m < k) (hk : k ≤ l.length) : (l.drop m).take (k - m) ≠ [] := by
  intro h
  have := congrArg List.length h
  rw [List.length_take, List.length_drop, List.length_nil] at this
  omega

set_option maxRecDepth 100000 in
set_option maxHeartbeats 2000000 in
theorem fseq_in (F : Fence) (n : Nat) (hF : F.fn 70) (hro : F.round = none) (hn : 1 ≤ n) (l bs : Nat) (s : ByteArray) (hs : s.size ≤ 1000) (ha : ∀ b ∈ s.data.toList, b.toNat < 128)
    (J : List (List UInt8) → World → Prop) (Jx : World → Prop)
    (hJ : ∀ ws W, J ws W → W.cell? ⟨bs, 0, none⟩ = some (.string s) ∧ ∀ c : Nat, c < 256 → W.cell? ⟨0, c, none⟩ = some (.int .u8 (if Lib.isSp (UInt8.ofNat c) then 1 else 0)))
    (hY : ∀ (x : ByteArray) (ws : List (List UInt8)) (W : World), x.size ≤ 1000 → J (x.data.toList :: ws) W → YieldAt F (n - 1) Tryz.prog l #[.string x] W fun e W' =>
      (e = .returned (.bool true) ∧ J ws W') ∨ (e = .returned (.bool false) ∧ Jx W'))
    (W : World) (h0 : J (fsq [] s.data.toList) W) :
    CallsIn F n Tryz.prog 70 #[.func (.yield l) #[] #[], .pointer (some ⟨bs, 0, none⟩)] W fun e W' =>
      (∃ v, e = .returned v) ∧ (J [] W' ∨ Jx W') := by
  have hb := get_bt s
  have hlen := len_data s
  obtain ⟨L, hL⟩ : ∃ L, s.data.toList = L := ⟨_, rfl⟩
  have HL := Lib.hid hL
  rw [hL] at hlen h0
  refine callsIn_of_wp Tryz.func70 rfl hF ?_ hro
  simp only [Tryz.ntmps70, List.size_toArray, List.length_cons, List.length_nil, Nat.reduceAdd, Nat.reduceSub, Array.replicate_succ, Array.replicate_zero, List.push_toArray, List.append_toArray, List.nil_append, List.cons_append]
  gi_wp2
  gi_loopw [3, 4] (fun st i wr => ∃ (k : Nat) (cur : List UInt8), k ≤ s.size ∧ i = .int .i64 k ∧ J (fsq cur (L.drop k)) wr ∧ ((st = .int .i64 (-1) ∧ cur = []) ∨ ∃ m : Nat, m < k ∧ st = .int .i64 m ∧ cur = (L.drop m).take (k - m))) (fun _ i _ => s.size - (intOf i).toNat)
  case atStart => exact ⟨0, [], Nat.zero_le _, rfl, by rw [List.drop_zero]; exact h0, Or.inl ⟨rfl, rfl⟩⟩
  case round =>
    clear h0
    obtain ⟨k, cur, hk, rfl, hj, hst⟩ := hrel
    obtain ⟨hcs, htab⟩ := hJ _ _ hj
    by_cases hlt : k < s.size
    · obtain ⟨c, r, hd, hc, hr⟩ := drop_bt hlt
      rw [HL.out] at hd hr
      have hb0 := bt_nonneg s k
      have hb1 := bt_le s k
      have hbs : bt s k < 128 := by
        have : c ∈ s.data.toList := by rw [HL.out]; exact List.mem_of_mem_drop (by rw [hd]; exact List.mem_cons_self)
        have := ha c this
        omega
      have hTx : wr.cell? ⟨0, (bt s k).toNat, none⟩ = some (.int .u8 (if Lib.isSp c then 1 else 0)) := by
        have h := htab (bt s k).toNat (by omega)
        rw [show UInt8.ofNat (bt s k).toNat = c by rw [← hc]; simp] at h
        exact h
      have HD := Lib.hid hd
      have HR := Lib.hid hr
      have HJ := Lib.hid hj
      clear hd hc hr htab hj
      rcases hst with ⟨rfl, rfl⟩ | ⟨m, hm, rfl, hcur⟩
      · cases hsp : Lib.isSp c with
        | true =>
          have HS := Lib.hid hsp
          rw [hsp] at hTx
          simp only [if_true] at hTx
          have HNX := Lib.hid (show J (fsq [] (L.drop (k + 1))) wr by have h := HJ.out; rw [HD.out, fsq_sp0 hsp] at h; rw [HR.out]; exact h)
          clear hsp
          gi_wp2
          refine ⟨⟨k + 1, [], by omega, by first | rfl | go_num, HNX.out, Or.inl ⟨rfl, rfl⟩⟩, ?_⟩
          simp [intOf]; omega
        | false =>
          rw [hsp] at hTx
          simp only [Bool.false_eq_true, if_false] at hTx
          have HNX := Lib.hid (show J (fsq ((L.drop k).take (k + 1 - k)) (L.drop (k + 1))) wr by
            have h := HJ.out
            rw [HD.out, fsq_no hsp] at h
            rw [HR.out, HD.out, show k + 1 - k = 1 by omega]; exact h)
          clear hsp
          gi_wp2
          refine ⟨⟨k + 1, _, by omega, by first | rfl | go_num, HNX.out, Or.inr ⟨k, by omega, rfl, rfl⟩⟩, ?_⟩
          simp [intOf]; omega
      · have hm0 : ¬ ((m : Int) < 0) := by omega
        have hm1 : (0 : Int) ≤ (m : Int) := by omega
        have hmk : (m : Int) ≤ (k : Int) := by omega
        have hcn : cur ≠ [] := by rw [hcur]; exact cur_ne hm (by omega)
        have HCU := Lib.hid hcur
        have HCN := Lib.hid hcn
        clear hcur hcn
        cases hsp : Lib.isSp c with
        | true =>
          rw [hsp] at hTx
          simp only [if_true] at hTx
          have HYY := Lib.hid (hY (s.extract m k) (fsq [] (L.drop (k + 1))) wr (by rw [ByteArray.size_extract]; omega) (by
            have h := HJ.out
            rw [HD.out, fsq_sp1 hsp HCN.out] at h
            rw [HR.out, data_extract, HL.out, ← HCU.out]; exact h))
          clear hsp
          obtain ⟨fn, tmps, assign, body, hy, hR⟩ := HYY.out
          gi_wp2
          refine hR.mono ?_
          rintro e W3 (⟨rfl, hj3⟩ | ⟨rfl, hj3⟩)
          · have hcs3 := (hJ _ _ hj3).1
            gi_wp2
            refine ⟨⟨k + 1, [], by omega, by first | rfl | go_num, hj3, Or.inl ⟨rfl, rfl⟩⟩, ?_⟩
            simp [intOf]; omega
          · gi_wp2
            refine bodyPost_ret (results_none rfl _ _ _) rfl ?_
            exact ⟨⟨_, rfl⟩, .inr hj3⟩
        | false =>
          rw [hsp] at hTx
          simp only [Bool.false_eq_true, if_false] at hTx
          have HNX := Lib.hid (show J (fsq ((L.drop m).take (k + 1 - m)) (L.drop (k + 1))) wr by
            have h := HJ.out
            rw [HD.out, fsq_no hsp, HCU.out, cur_step hm HD.out] at h
            rw [HR.out]; exact h)
          clear hsp
          gi_wp2
          refine ⟨⟨k + 1, _, by omega, by first | rfl | go_num, HNX.out, Or.inr ⟨m, by omega, rfl, rfl⟩⟩, ?_⟩
          simp [intOf]; omega
    · obtain rfl : k = s.size := by omega
      rcases hst with ⟨rfl, rfl⟩ | ⟨m, hm, rfl, hcur⟩
      · have HNX := Lib.hid (show J [] wr by rw [List.drop_eq_nil_of_le (by omega)] at hj; exact hj)
        clear htab
        gi_wp2
        go_end0
        exact ⟨⟨_, rfl⟩, .inl HNX.out⟩
      · have hm1 : (0 : Int) ≤ (m : Int) := by omega
        have hmk : (m : Int) ≤ (s.size : Int) := by omega
        have hcn : cur ≠ [] := by rw [hcur]; exact cur_ne hm (by omega)
        have HYY := Lib.hid (hY (s.extract m s.size) [] wr (by rw [ByteArray.size_extract]; omega) (by
          rw [List.drop_eq_nil_of_le (by omega), fsq_end hcn] at hj
          rw [data_extract, HL.out, ← hcur]; exact hj))
        clear htab hj hcur hcn
        obtain ⟨fn, tmps, assign, body, hy, hR⟩ := HYY.out
        gi_wp2
        refine hR.mono ?_
        rintro e W3 (⟨rfl, hj3⟩ | ⟨rfl, hj3⟩)
        · gi_wp2
          go_end0
          exact ⟨⟨_, rfl⟩, .inl hj3⟩
        · gi_wp2
          go_end0
          exact ⟨⟨_, rfl⟩, .inr hj3⟩

end Go.Proofs.YtfpdnhbbbadegaaGreatDoor
