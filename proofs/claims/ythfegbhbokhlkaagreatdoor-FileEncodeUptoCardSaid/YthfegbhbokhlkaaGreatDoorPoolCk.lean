/- Layer 5: checkConst, in the package and in its reference. -/
import Derived.Test.YthfegbhbokhlkaaGreatDoorPoolIx
namespace Go.Proofs.YthfegbhbokhlkaaGreatDoor
open Go.ChangeShapes Go.WideShapes Go.ChangeAt Go.RowKit Go.PlainAid
set_option linter.unusedSimpArgs false
set_option linter.unusedVariables false

def ckE (L : List Cn) (t : Int) (s : ByteArray) (m a b : Int) : Int :=
  if knB t = true then
    if fmB t s m a b = true then
      if t = 1 then (if 1024 < s.size then 8 else 0)
      else if t = 3 then (if -2147483648 ≤ m ∧ m ≤ 2147483647 then 0 else 8)
      else if t = 5 then 0
      else ixE L t a b
    else 4
  else 11
theorem ck_un {L : List Cn} {t m a b : Int} {s : ByteArray} (h : knB t = false) : ckE L t s m a b = 11 := by unfold ckE; rw [h]; rfl
theorem ck_mal {L : List Cn} {t m a b : Int} {s : ByteArray} (hk : knB t = true) (h : fmB t s m a b = false) : ckE L t s m a b = 4 := by unfold ckE; rw [hk, h]; rfl
theorem ck1_8 {L : List Cn} {m a b : Int} {s : ByteArray} (h : fmB 1 s m a b = true) (h1 : 1024 < s.size) : ckE L 1 s m a b = 8 := by unfold ckE; rw [h, show knB 1 = true from rfl, if_pos rfl, if_pos rfl, if_pos rfl, if_pos h1]
theorem ck1_0 {L : List Cn} {m a b : Int} {s : ByteArray} (h : fmB 1 s m a b = true) (h1 : ¬ 1024 < s.size) : ckE L 1 s m a b = 0 := by unfold ckE; rw [h, show knB 1 = true from rfl, if_pos rfl, if_pos rfl, if_pos rfl, if_neg h1]
theorem ck3_0 {L : List Cn} {m a b : Int} {s : ByteArray} (h : fmB 3 s m a b = true) (h1 : -2147483648 ≤ m ∧ m ≤ 2147483647) : ckE L 3 s m a b = 0 := by unfold ckE; rw [h, show knB 3 = true from rfl, if_pos rfl, if_pos rfl, if_neg (by decide), if_pos rfl, if_pos h1]
theorem ck3_8 {L : List Cn} {m a b : Int} {s : ByteArray} (h : fmB 3 s m a b = true) (h1 : ¬ (-2147483648 ≤ m ∧ m ≤ 2147483647)) : ckE L 3 s m a b = 8 := by unfold ckE; rw [h, show knB 3 = true from rfl, if_pos rfl, if_pos rfl, if_neg (by decide), if_pos rfl, if_neg h1]
theorem ck1 {L : List Cn} {m a b : Int} {s : ByteArray} (h : fmB 1 s m a b = true) : ckE L 1 s m a b = tli (decide ((1024 : Int) < s.size)) := by
  by_cases h1 : 1024 < s.size
  · rw [ck1_8 h h1, decide_eq_true (by omega)]; rfl
  · rw [ck1_0 h h1, decide_eq_false (by omega)]; rfl
theorem wr_in {m : Int} (h1 : -2147483648 ≤ m ∧ m ≤ 2147483647) : (m != wrap64 (wrap32 m)) = false := by
  have : wrap64 (wrap32 m) = m := by unfold wrap64 wrap32; omega
  rw [this]; simp
theorem wr_out {m : Int} (h1 : ¬ (-2147483648 ≤ m ∧ m ≤ 2147483647)) : (m != wrap64 (wrap32 m)) = true := by
  have : ¬ m = wrap64 (wrap32 m) := by unfold wrap64 wrap32; omega
  simpa using this
theorem ck3 {L : List Cn} {m a b : Int} {s : ByteArray} (h : fmB 3 s m a b = true) : ckE L 3 s m a b = tli (m != wrap64 (wrap32 m)) := by
  by_cases h1 : -2147483648 ≤ m ∧ m ≤ 2147483647
  · rw [ck3_0 h h1, wr_in h1]; rfl
  · rw [ck3_8 h h1, wr_out h1]; rfl
theorem ck5_0 {L : List Cn} {m a b : Int} {s : ByteArray} (h : fmB 5 s m a b = true) : ckE L 5 s m a b = 0 := by unfold ckE; rw [h, show knB 5 = true from rfl, if_pos rfl, if_pos rfl, if_neg (by decide), if_neg (by decide), if_pos rfl]
theorem ck_ix {L : List Cn} {t m a b : Int} {s : ByteArray} (ht : 7 ≤ t) (hk : knB t = true) (h : fmB t s m a b = true) : ckE L t s m a b = ixE L t a b := by unfold ckE; rw [h, hk, if_pos rfl, if_pos rfl, if_neg (by omega), if_neg (by omega), if_neg (by omega)]
theorem s_nil {s : ByteArray} : (s = ⟨#[]⟩) ↔ s.toList = [] := by
  constructor
  · rintro rfl; simp [ByteArray.toList_eq]
  · intro h; exact toList_iff.1 (h.trans (by simp [ByteArray.toList_eq]))
theorem kn_cases {t : Int} (h : knB t = true) : t = 1 ∨ t = 3 ∨ t = 5 ∨ t = 7 ∨ t = 8 ∨ t = 12 ∨ t = 9 ∨ t = 10 ∨ t = 11 := by
  simp [knB, mtB] at h; omega

set_option maxRecDepth 100000 in
set_option maxHeartbeats 1000000 in
theorem ckc_1 {w0 : World} {A : Option Addr} {n c : Nat} {L : List Cn} (s : ByteArray) (m a b : Int) (hS : Fits L) (hn : L.length = n) (hN : n ≤ 100000) (hp : Pool w0 w0.heap.size A L) (w : World) (hb : Below w0.heap.size w0 w) :
    Calls Tryz.prog 58 #[.slice A n c, .agg #[.int .i64 1, .string s, .int .i64 m, .int .i64 a, .int .i64 b]] w fun e w' => e = .returned (.int .i64 (ckE L 1 s m a b)) ∧ Below w.heap.size w w' := by
  have HP := Lib.hid (hp.up hb)
  have HN := Lib.hid hn
  clear hp hb hn
  have hB : Below w.heap.size w w := Below.refl _ _
  have e0 : cnQ ⟨0, ⟨#[]⟩, m, a, b⟩ cnZ = fmB 1 s m a b := by cases hs : s.toList <;> simp [cnQ, fmB, cnZ, s_nil, mtB, hs]
  have e1 : ∀ w, (binOp .neq 80 (.agg #[.int .i64 0, .string ⟨#[]⟩, .int .i64 m, .int .i64 a, .int .i64 b]) (.agg #[.int .i64 0, .string ⟨#[]⟩, .int .i64 0, .int .i64 0, .int .i64 0])).run Tryz.prog w = .ok (.bool (!fmB 1 s m a b)) w := fun w => by rw [← e0]; exact cn_neq ⟨0, ⟨#[]⟩, m, a, b⟩ cnZ w
  clear e0
  cases hf : fmB 1 s m a b
  all_goals
    rw [hf] at e1
    go_enter Tryz.func58, Tryz.ntmps58
    go_wp2_with (first | (go_at_call 69; refine (tli_any _ _).mono ?_; rintro e w1 ⟨rfl, hb1⟩; obtain ⟨hc1, hf1⟩ := bcell hb1; have hz1 := hb1.size; (try simp only [World.size_alloc, World.size_setCell] at hz1); (try have hza : w.heap.size < w1.heap.size := by omega); (try have hzb : w.heap.size + 1 < w1.heap.size := by omega); (try have hzc : w.heap.size + 1 + 1 < w1.heap.size := by omega); (try have hzd : wa.heap.size < w1.heap.size := by omega); (try replace hR := (hb1.block w.heap.size (by first | exact lt_heap hR | (have := lt_heap hR; simp; omega))).trans (by first | with_reducible exact hR | with_reducible exact laid_old hR)); replace hB := below_on (w := w) ((by repeat (first | with_reducible exact hB | with_reducible exact Below.refl _ _ | with_reducible refine below_al ?_ _ | with_reducible refine below_st ?_ (by first | exact Nat.le_refl _ | exact Nat.le_add_right _ _ | (simp; omega)) _))) hb1; clear hb1))
    all_goals go_ret
  · exact ⟨by rw [ck_mal rfl hf]; rfl, (by repeat (first | with_reducible exact hB | with_reducible exact Below.refl _ _ | with_reducible refine below_al ?_ _ | with_reducible refine below_st ?_ (by first | exact Nat.le_refl _ | exact Nat.le_add_right _ _ | (simp; omega)) _))⟩
  · exact ⟨by rw [ck1 hf]; rfl, (by repeat (first | with_reducible exact hB | with_reducible exact Below.refl _ _ | with_reducible refine below_al ?_ _ | with_reducible refine below_st ?_ (by first | exact Nat.le_refl _ | exact Nat.le_add_right _ _ | (simp; omega)) _))⟩

set_option maxRecDepth 100000 in
set_option maxHeartbeats 1000000 in
theorem ckc_3 {w0 : World} {A : Option Addr} {n c : Nat} {L : List Cn} (s : ByteArray) (m a b : Int) (hS : Fits L) (hn : L.length = n) (hN : n ≤ 100000) (hp : Pool w0 w0.heap.size A L) (w : World) (hb : Below w0.heap.size w0 w) :
    Calls Tryz.prog 58 #[.slice A n c, .agg #[.int .i64 3, .string s, .int .i64 m, .int .i64 a, .int .i64 b]] w fun e w' => e = .returned (.int .i64 (ckE L 3 s m a b)) ∧ Below w.heap.size w w' := by
  have HP := Lib.hid (hp.up hb)
  have HN := Lib.hid hn
  clear hp hb hn
  have hB : Below w.heap.size w w := Below.refl _ _
  have e0 : cnQ ⟨0, s, 0, a, b⟩ cnZ = fmB 3 s m a b := by cases hs : s.toList <;> simp [cnQ, fmB, cnZ, s_nil, mtB, hs]
  have e1 : ∀ w, (binOp .neq 80 (.agg #[.int .i64 0, .string s, .int .i64 0, .int .i64 a, .int .i64 b]) (.agg #[.int .i64 0, .string ⟨#[]⟩, .int .i64 0, .int .i64 0, .int .i64 0])).run Tryz.prog w = .ok (.bool (!fmB 3 s m a b)) w := fun w => by rw [← e0]; exact cn_neq ⟨0, s, 0, a, b⟩ cnZ w
  clear e0
  cases hf : fmB 3 s m a b
  all_goals
    rw [hf] at e1
    go_enter Tryz.func58, Tryz.ntmps58
    go_wp2_with (first | (go_at_call 69; refine (tli_any _ _).mono ?_; rintro e w1 ⟨rfl, hb1⟩; obtain ⟨hc1, hf1⟩ := bcell hb1; have hz1 := hb1.size; (try simp only [World.size_alloc, World.size_setCell] at hz1); (try have hza : w.heap.size < w1.heap.size := by omega); (try have hzb : w.heap.size + 1 < w1.heap.size := by omega); (try have hzc : w.heap.size + 1 + 1 < w1.heap.size := by omega); (try have hzd : wa.heap.size < w1.heap.size := by omega); (try replace hR := (hb1.block w.heap.size (by first | exact lt_heap hR | (have := lt_heap hR; simp; omega))).trans (by first | with_reducible exact hR | with_reducible exact laid_old hR)); replace hB := below_on (w := w) ((by repeat (first | with_reducible exact hB | with_reducible exact Below.refl _ _ | with_reducible refine below_al ?_ _ | with_reducible refine below_st ?_ (by first | exact Nat.le_refl _ | exact Nat.le_add_right _ _ | (simp; omega)) _))) hb1; clear hb1))
    all_goals go_ret
  · exact ⟨by rw [ck_mal rfl hf]; rfl, (by repeat (first | with_reducible exact hB | with_reducible exact Below.refl _ _ | with_reducible refine below_al ?_ _ | with_reducible refine below_st ?_ (by first | exact Nat.le_refl _ | exact Nat.le_add_right _ _ | (simp; omega)) _))⟩
  · exact ⟨by rw [ck3 hf]; rfl, (by repeat (first | with_reducible exact hB | with_reducible exact Below.refl _ _ | with_reducible refine below_al ?_ _ | with_reducible refine below_st ?_ (by first | exact Nat.le_refl _ | exact Nat.le_add_right _ _ | (simp; omega)) _))⟩

set_option maxRecDepth 100000 in
set_option maxHeartbeats 1000000 in
theorem ckc_5 {w0 : World} {A : Option Addr} {n c : Nat} {L : List Cn} (s : ByteArray) (m a b : Int) (hS : Fits L) (hn : L.length = n) (hN : n ≤ 100000) (hp : Pool w0 w0.heap.size A L) (w : World) (hb : Below w0.heap.size w0 w) :
    Calls Tryz.prog 58 #[.slice A n c, .agg #[.int .i64 5, .string s, .int .i64 m, .int .i64 a, .int .i64 b]] w fun e w' => e = .returned (.int .i64 (ckE L 5 s m a b)) ∧ Below w.heap.size w w' := by
  have HP := Lib.hid (hp.up hb)
  have HN := Lib.hid hn
  clear hp hb hn
  have hB : Below w.heap.size w w := Below.refl _ _
  have e0 : cnQ ⟨0, s, 0, a, b⟩ cnZ = fmB 5 s m a b := by cases hs : s.toList <;> simp [cnQ, fmB, cnZ, s_nil, mtB, hs]
  have e1 : ∀ w, (binOp .neq 80 (.agg #[.int .i64 0, .string s, .int .i64 0, .int .i64 a, .int .i64 b]) (.agg #[.int .i64 0, .string ⟨#[]⟩, .int .i64 0, .int .i64 0, .int .i64 0])).run Tryz.prog w = .ok (.bool (!fmB 5 s m a b)) w := fun w => by rw [← e0]; exact cn_neq ⟨0, s, 0, a, b⟩ cnZ w
  clear e0
  cases hf : fmB 5 s m a b
  all_goals
    rw [hf] at e1
    go_enter Tryz.func58, Tryz.ntmps58
    go_wp2_with (first | (go_at_call 69; refine (tli_any _ _).mono ?_; rintro e w1 ⟨rfl, hb1⟩; obtain ⟨hc1, hf1⟩ := bcell hb1; have hz1 := hb1.size; (try simp only [World.size_alloc, World.size_setCell] at hz1); (try have hza : w.heap.size < w1.heap.size := by omega); (try have hzb : w.heap.size + 1 < w1.heap.size := by omega); (try have hzc : w.heap.size + 1 + 1 < w1.heap.size := by omega); (try have hzd : wa.heap.size < w1.heap.size := by omega); (try replace hR := (hb1.block w.heap.size (by first | exact lt_heap hR | (have := lt_heap hR; simp; omega))).trans (by first | with_reducible exact hR | with_reducible exact laid_old hR)); replace hB := below_on (w := w) ((by repeat (first | with_reducible exact hB | with_reducible exact Below.refl _ _ | with_reducible refine below_al ?_ _ | with_reducible refine below_st ?_ (by first | exact Nat.le_refl _ | exact Nat.le_add_right _ _ | (simp; omega)) _))) hb1; clear hb1))
    all_goals go_ret
  · exact ⟨by rw [ck_mal rfl hf]; rfl, (by repeat (first | with_reducible exact hB | with_reducible exact Below.refl _ _ | with_reducible refine below_al ?_ _ | with_reducible refine below_st ?_ (by first | exact Nat.le_refl _ | exact Nat.le_add_right _ _ | (simp; omega)) _))⟩
  · exact ⟨by rw [ck5_0 hf]; rfl, (by repeat (first | with_reducible exact hB | with_reducible exact Below.refl _ _ | with_reducible refine below_al ?_ _ | with_reducible refine below_st ?_ (by first | exact Nat.le_refl _ | exact Nat.le_add_right _ _ | (simp; omega)) _))⟩

set_option maxRecDepth 100000 in
set_option maxHeartbeats 1000000 in
theorem ckc_7 {w0 : World} {A : Option Addr} {n c : Nat} {L : List Cn} (s : ByteArray) (m a b : Int) (hS : Fits L) (hn : L.length = n) (hN : n ≤ 100000) (hp : Pool w0 w0.heap.size A L) (w : World) (hb : Below w0.heap.size w0 w) :
    Calls Tryz.prog 58 #[.slice A n c, .agg #[.int .i64 7, .string s, .int .i64 m, .int .i64 a, .int .i64 b]] w fun e w' => e = .returned (.int .i64 (ckE L 7 s m a b)) ∧ Below w.heap.size w w' := by
  have HP := Lib.hid (hp.up hb)
  have HN := Lib.hid hn
  clear hp hb hn
  have hB : Below w.heap.size w w := Below.refl _ _
  have e0 : cnQ ⟨0, s, m, 0, b⟩ cnZ = fmB 7 s m a b := by cases hs : s.toList <;> simp [cnQ, fmB, cnZ, s_nil, mtB, hs]
  have e1 : ∀ w, (binOp .neq 80 (.agg #[.int .i64 0, .string s, .int .i64 m, .int .i64 0, .int .i64 b]) (.agg #[.int .i64 0, .string ⟨#[]⟩, .int .i64 0, .int .i64 0, .int .i64 0])).run Tryz.prog w = .ok (.bool (!fmB 7 s m a b)) w := fun w => by rw [← e0]; exact cn_neq ⟨0, s, m, 0, b⟩ cnZ w
  clear e0
  cases hf : fmB 7 s m a b
  all_goals
    rw [hf] at e1
    go_enter Tryz.func58, Tryz.ntmps58
    go_wp2_with (first | (go_at_call 69; refine (tli_any _ _).mono ?_; rintro e w1 ⟨rfl, hb1⟩; obtain ⟨hc1, hf1⟩ := bcell hb1; have hz1 := hb1.size; (try simp only [World.size_alloc, World.size_setCell] at hz1); (try have hza : w.heap.size < w1.heap.size := by omega); (try have hzb : w.heap.size + 1 < w1.heap.size := by omega); (try have hzc : w.heap.size + 1 + 1 < w1.heap.size := by omega); (try have hzd : wa.heap.size < w1.heap.size := by omega); (try replace hR := (hb1.block w.heap.size (by first | exact lt_heap hR | (have := lt_heap hR; simp; omega))).trans (by first | with_reducible exact hR | with_reducible exact laid_old hR)); replace hB := below_on (w := w) ((by repeat (first | with_reducible exact hB | with_reducible exact Below.refl _ _ | with_reducible refine below_al ?_ _ | with_reducible refine below_st ?_ (by first | exact Nat.le_refl _ | exact Nat.le_add_right _ _ | (simp; omega)) _))) hb1; clear hb1) | (go_at_call 70; refine (chx_7 _ _ _ _ hS HN.out hN HP.out _ (by repeat (first | with_reducible exact hB | with_reducible exact Below.refl _ _ | with_reducible refine below_al ?_ _ | with_reducible refine below_st ?_ (by first | exact Nat.le_refl _ | exact Nat.le_add_right _ _ | (simp; omega)) _))).mono ?_; rintro e w1 ⟨rfl, hb1⟩; obtain ⟨hc1, hf1⟩ := bcell hb1; have hz1 := hb1.size; (try simp only [World.size_alloc, World.size_setCell] at hz1); (try have hza : w.heap.size < w1.heap.size := by omega); (try have hzb : w.heap.size + 1 < w1.heap.size := by omega); (try have hzc : w.heap.size + 1 + 1 < w1.heap.size := by omega); (try have hzd : wa.heap.size < w1.heap.size := by omega); (try replace hR := (hb1.block w.heap.size (by first | exact lt_heap hR | (have := lt_heap hR; simp; omega))).trans (by first | with_reducible exact hR | with_reducible exact laid_old hR)); replace hB := below_on (w := w) ((by repeat (first | with_reducible exact hB | with_reducible exact Below.refl _ _ | with_reducible refine below_al ?_ _ | with_reducible refine below_st ?_ (by first | exact Nat.le_refl _ | exact Nat.le_add_right _ _ | (simp; omega)) _))) hb1; clear hb1))
    all_goals go_ret
  · exact ⟨by rw [ck_mal rfl hf]; rfl, (by repeat (first | with_reducible exact hB | with_reducible exact Below.refl _ _ | with_reducible refine below_al ?_ _ | with_reducible refine below_st ?_ (by first | exact Nat.le_refl _ | exact Nat.le_add_right _ _ | (simp; omega)) _))⟩
  · exact ⟨by rw [ck_ix (by omega) rfl hf]; rfl, (by repeat (first | with_reducible exact hB | with_reducible exact Below.refl _ _ | with_reducible refine below_al ?_ _ | with_reducible refine below_st ?_ (by first | exact Nat.le_refl _ | exact Nat.le_add_right _ _ | (simp; omega)) _))⟩

set_option maxRecDepth 100000 in
set_option maxHeartbeats 1000000 in
theorem ckc_8 {w0 : World} {A : Option Addr} {n c : Nat} {L : List Cn} (s : ByteArray) (m a b : Int) (hS : Fits L) (hn : L.length = n) (hN : n ≤ 100000) (hp : Pool w0 w0.heap.size A L) (w : World) (hb : Below w0.heap.size w0 w) :
    Calls Tryz.prog 58 #[.slice A n c, .agg #[.int .i64 8, .string s, .int .i64 m, .int .i64 a, .int .i64 b]] w fun e w' => e = .returned (.int .i64 (ckE L 8 s m a b)) ∧ Below w.heap.size w w' := by
  have HP := Lib.hid (hp.up hb)
  have HN := Lib.hid hn
  clear hp hb hn
  have hB : Below w.heap.size w w := Below.refl _ _
  have e0 : cnQ ⟨0, s, m, 0, b⟩ cnZ = fmB 8 s m a b := by cases hs : s.toList <;> simp [cnQ, fmB, cnZ, s_nil, mtB, hs]
  have e1 : ∀ w, (binOp .neq 80 (.agg #[.int .i64 0, .string s, .int .i64 m, .int .i64 0, .int .i64 b]) (.agg #[.int .i64 0, .string ⟨#[]⟩, .int .i64 0, .int .i64 0, .int .i64 0])).run Tryz.prog w = .ok (.bool (!fmB 8 s m a b)) w := fun w => by rw [← e0]; exact cn_neq ⟨0, s, m, 0, b⟩ cnZ w
  clear e0
  cases hf : fmB 8 s m a b
  all_goals
    rw [hf] at e1
    go_enter Tryz.func58, Tryz.ntmps58
    go_wp2_with (first | (go_at_call 69; refine (tli_any _ _).mono ?_; rintro e w1 ⟨rfl, hb1⟩; obtain ⟨hc1, hf1⟩ := bcell hb1; have hz1 := hb1.size; (try simp only [World.size_alloc, World.size_setCell] at hz1); (try have hza : w.heap.size < w1.heap.size := by omega); (try have hzb : w.heap.size + 1 < w1.heap.size := by omega); (try have hzc : w.heap.size + 1 + 1 < w1.heap.size := by omega); (try have hzd : wa.heap.size < w1.heap.size := by omega); (try replace hR := (hb1.block w.heap.size (by first | exact lt_heap hR | (have := lt_heap hR; simp; omega))).trans (by first | with_reducible exact hR | with_reducible exact laid_old hR)); replace hB := below_on (w := w) ((by repeat (first | with_reducible exact hB | with_reducible exact Below.refl _ _ | with_reducible refine below_al ?_ _ | with_reducible refine below_st ?_ (by first | exact Nat.le_refl _ | exact Nat.le_add_right _ _ | (simp; omega)) _))) hb1; clear hb1) | (go_at_call 70; refine (chx_8 _ _ _ _ hS HN.out hN HP.out _ (by repeat (first | with_reducible exact hB | with_reducible exact Below.refl _ _ | with_reducible refine below_al ?_ _ | with_reducible refine below_st ?_ (by first | exact Nat.le_refl _ | exact Nat.le_add_right _ _ | (simp; omega)) _))).mono ?_; rintro e w1 ⟨rfl, hb1⟩; obtain ⟨hc1, hf1⟩ := bcell hb1; have hz1 := hb1.size; (try simp only [World.size_alloc, World.size_setCell] at hz1); (try have hza : w.heap.size < w1.heap.size := by omega); (try have hzb : w.heap.size + 1 < w1.heap.size := by omega); (try have hzc : w.heap.size + 1 + 1 < w1.heap.size := by omega); (try have hzd : wa.heap.size < w1.heap.size := by omega); (try replace hR := (hb1.block w.heap.size (by first | exact lt_heap hR | (have := lt_heap hR; simp; omega))).trans (by first | with_reducible exact hR | with_reducible exact laid_old hR)); replace hB := below_on (w := w) ((by repeat (first | with_reducible exact hB | with_reducible exact Below.refl _ _ | with_reducible refine below_al ?_ _ | with_reducible refine below_st ?_ (by first | exact Nat.le_refl _ | exact Nat.le_add_right _ _ | (simp; omega)) _))) hb1; clear hb1))
    all_goals go_ret
  · exact ⟨by rw [ck_mal rfl hf]; rfl, (by repeat (first | with_reducible exact hB | with_reducible exact Below.refl _ _ | with_reducible refine below_al ?_ _ | with_reducible refine below_st ?_ (by first | exact Nat.le_refl _ | exact Nat.le_add_right _ _ | (simp; omega)) _))⟩
  · exact ⟨by rw [ck_ix (by omega) rfl hf]; rfl, (by repeat (first | with_reducible exact hB | with_reducible exact Below.refl _ _ | with_reducible refine below_al ?_ _ | with_reducible refine below_st ?_ (by first | exact Nat.le_refl _ | exact Nat.le_add_right _ _ | (simp; omega)) _))⟩

set_option maxRecDepth 100000 in
set_option maxHeartbeats 1000000 in
theorem ckc_12 {w0 : World} {A : Option Addr} {n c : Nat} {L : List Cn} (s : ByteArray) (m a b : Int) (hS : Fits L) (hn : L.length = n) (hN : n ≤ 100000) (hp : Pool w0 w0.heap.size A L) (w : World) (hb : Below w0.heap.size w0 w) :
    Calls Tryz.prog 58 #[.slice A n c, .agg #[.int .i64 12, .string s, .int .i64 m, .int .i64 a, .int .i64 b]] w fun e w' => e = .returned (.int .i64 (ckE L 12 s m a b)) ∧ Below w.heap.size w w' := by
  have HP := Lib.hid (hp.up hb)
  have HN := Lib.hid hn
  clear hp hb hn
  have hB : Below w.heap.size w w := Below.refl _ _
  have e0 : cnQ ⟨0, s, m, 0, 0⟩ cnZ = fmB 12 s m a b := by cases hs : s.toList <;> simp [cnQ, fmB, cnZ, s_nil, mtB, hs]
  have e1 : ∀ w, (binOp .neq 80 (.agg #[.int .i64 0, .string s, .int .i64 m, .int .i64 0, .int .i64 0]) (.agg #[.int .i64 0, .string ⟨#[]⟩, .int .i64 0, .int .i64 0, .int .i64 0])).run Tryz.prog w = .ok (.bool (!fmB 12 s m a b)) w := fun w => by rw [← e0]; exact cn_neq ⟨0, s, m, 0, 0⟩ cnZ w
  clear e0
  cases hf : fmB 12 s m a b
  all_goals
    rw [hf] at e1
    go_enter Tryz.func58, Tryz.ntmps58
    go_wp2_with (first | (go_at_call 69; refine (tli_any _ _).mono ?_; rintro e w1 ⟨rfl, hb1⟩; obtain ⟨hc1, hf1⟩ := bcell hb1; have hz1 := hb1.size; (try simp only [World.size_alloc, World.size_setCell] at hz1); (try have hza : w.heap.size < w1.heap.size := by omega); (try have hzb : w.heap.size + 1 < w1.heap.size := by omega); (try have hzc : w.heap.size + 1 + 1 < w1.heap.size := by omega); (try have hzd : wa.heap.size < w1.heap.size := by omega); (try replace hR := (hb1.block w.heap.size (by first | exact lt_heap hR | (have := lt_heap hR; simp; omega))).trans (by first | with_reducible exact hR | with_reducible exact laid_old hR)); replace hB := below_on (w := w) ((by repeat (first | with_reducible exact hB | with_reducible exact Below.refl _ _ | with_reducible refine below_al ?_ _ | with_reducible refine below_st ?_ (by first | exact Nat.le_refl _ | exact Nat.le_add_right _ _ | (simp; omega)) _))) hb1; clear hb1) | (go_at_call 70; refine (chx_12 _ _ _ _ hS HN.out hN HP.out _ (by repeat (first | with_reducible exact hB | with_reducible exact Below.refl _ _ | with_reducible refine below_al ?_ _ | with_reducible refine below_st ?_ (by first | exact Nat.le_refl _ | exact Nat.le_add_right _ _ | (simp; omega)) _))).mono ?_; rintro e w1 ⟨rfl, hb1⟩; obtain ⟨hc1, hf1⟩ := bcell hb1; have hz1 := hb1.size; (try simp only [World.size_alloc, World.size_setCell] at hz1); (try have hza : w.heap.size < w1.heap.size := by omega); (try have hzb : w.heap.size + 1 < w1.heap.size := by omega); (try have hzc : w.heap.size + 1 + 1 < w1.heap.size := by omega); (try have hzd : wa.heap.size < w1.heap.size := by omega); (try replace hR := (hb1.block w.heap.size (by first | exact lt_heap hR | (have := lt_heap hR; simp; omega))).trans (by first | with_reducible exact hR | with_reducible exact laid_old hR)); replace hB := below_on (w := w) ((by repeat (first | with_reducible exact hB | with_reducible exact Below.refl _ _ | with_reducible refine below_al ?_ _ | with_reducible refine below_st ?_ (by first | exact Nat.le_refl _ | exact Nat.le_add_right _ _ | (simp; omega)) _))) hb1; clear hb1))
    all_goals go_ret
  · exact ⟨by rw [ck_mal rfl hf]; rfl, (by repeat (first | with_reducible exact hB | with_reducible exact Below.refl _ _ | with_reducible refine below_al ?_ _ | with_reducible refine below_st ?_ (by first | exact Nat.le_refl _ | exact Nat.le_add_right _ _ | (simp; omega)) _))⟩
  · exact ⟨by rw [ck_ix (by omega) rfl hf]; rfl, (by repeat (first | with_reducible exact hB | with_reducible exact Below.refl _ _ | with_reducible refine below_al ?_ _ | with_reducible refine below_st ?_ (by first | exact Nat.le_refl _ | exact Nat.le_add_right _ _ | (simp; omega)) _))⟩

set_option maxRecDepth 100000 in
set_option maxHeartbeats 1000000 in
theorem ckc_9 {w0 : World} {A : Option Addr} {n c : Nat} {L : List Cn} (s : ByteArray) (m a b : Int) (hS : Fits L) (hn : L.length = n) (hN : n ≤ 100000) (hp : Pool w0 w0.heap.size A L) (w : World) (hb : Below w0.heap.size w0 w) :
    Calls Tryz.prog 58 #[.slice A n c, .agg #[.int .i64 9, .string s, .int .i64 m, .int .i64 a, .int .i64 b]] w fun e w' => e = .returned (.int .i64 (ckE L 9 s m a b)) ∧ Below w.heap.size w w' := by
  have HP := Lib.hid (hp.up hb)
  have HN := Lib.hid hn
  clear hp hb hn
  have hB : Below w.heap.size w w := Below.refl _ _
  have e0 : cnQ ⟨0, s, m, 0, 0⟩ cnZ = fmB 9 s m a b := by cases hs : s.toList <;> simp [cnQ, fmB, cnZ, s_nil, mtB, hs]
  have e1 : ∀ w, (binOp .neq 80 (.agg #[.int .i64 0, .string s, .int .i64 m, .int .i64 0, .int .i64 0]) (.agg #[.int .i64 0, .string ⟨#[]⟩, .int .i64 0, .int .i64 0, .int .i64 0])).run Tryz.prog w = .ok (.bool (!fmB 9 s m a b)) w := fun w => by rw [← e0]; exact cn_neq ⟨0, s, m, 0, 0⟩ cnZ w
  clear e0
  cases hf : fmB 9 s m a b
  all_goals
    rw [hf] at e1
    go_enter Tryz.func58, Tryz.ntmps58
    go_wp2_with (first | (go_at_call 69; refine (tli_any _ _).mono ?_; rintro e w1 ⟨rfl, hb1⟩; obtain ⟨hc1, hf1⟩ := bcell hb1; have hz1 := hb1.size; (try simp only [World.size_alloc, World.size_setCell] at hz1); (try have hza : w.heap.size < w1.heap.size := by omega); (try have hzb : w.heap.size + 1 < w1.heap.size := by omega); (try have hzc : w.heap.size + 1 + 1 < w1.heap.size := by omega); (try have hzd : wa.heap.size < w1.heap.size := by omega); (try replace hR := (hb1.block w.heap.size (by first | exact lt_heap hR | (have := lt_heap hR; simp; omega))).trans (by first | with_reducible exact hR | with_reducible exact laid_old hR)); replace hB := below_on (w := w) ((by repeat (first | with_reducible exact hB | with_reducible exact Below.refl _ _ | with_reducible refine below_al ?_ _ | with_reducible refine below_st ?_ (by first | exact Nat.le_refl _ | exact Nat.le_add_right _ _ | (simp; omega)) _))) hb1; clear hb1) | (go_at_call 70; refine (chx_9 _ _ _ _ hS HN.out hN HP.out _ (by repeat (first | with_reducible exact hB | with_reducible exact Below.refl _ _ | with_reducible refine below_al ?_ _ | with_reducible refine below_st ?_ (by first | exact Nat.le_refl _ | exact Nat.le_add_right _ _ | (simp; omega)) _))).mono ?_; rintro e w1 ⟨rfl, hb1⟩; obtain ⟨hc1, hf1⟩ := bcell hb1; have hz1 := hb1.size; (try simp only [World.size_alloc, World.size_setCell] at hz1); (try have hza : w.heap.size < w1.heap.size := by omega); (try have hzb : w.heap.size + 1 < w1.heap.size := by omega); (try have hzc : w.heap.size + 1 + 1 < w1.heap.size := by omega); (try have hzd : wa.heap.size < w1.heap.size := by omega); (try replace hR := (hb1.block w.heap.size (by first | exact lt_heap hR | (have := lt_heap hR; simp; omega))).trans (by first | with_reducible exact hR | with_reducible exact laid_old hR)); replace hB := below_on (w := w) ((by repeat (first | with_reducible exact hB | with_reducible exact Below.refl _ _ | with_reducible refine below_al ?_ _ | with_reducible refine below_st ?_ (by first | exact Nat.le_refl _ | exact Nat.le_add_right _ _ | (simp; omega)) _))) hb1; clear hb1))
    all_goals go_ret
  · exact ⟨by rw [ck_mal rfl hf]; rfl, (by repeat (first | with_reducible exact hB | with_reducible exact Below.refl _ _ | with_reducible refine below_al ?_ _ | with_reducible refine below_st ?_ (by first | exact Nat.le_refl _ | exact Nat.le_add_right _ _ | (simp; omega)) _))⟩
  · exact ⟨by rw [ck_ix (by omega) rfl hf]; rfl, (by repeat (first | with_reducible exact hB | with_reducible exact Below.refl _ _ | with_reducible refine below_al ?_ _ | with_reducible refine below_st ?_ (by first | exact Nat.le_refl _ | exact Nat.le_add_right _ _ | (simp; omega)) _))⟩

set_option maxRecDepth 100000 in
set_option maxHeartbeats 1000000 in
theorem ckc_10 {w0 : World} {A : Option Addr} {n c : Nat} {L : List Cn} (s : ByteArray) (m a b : Int) (hS : Fits L) (hn : L.length = n) (hN : n ≤ 100000) (hp : Pool w0 w0.heap.size A L) (w : World) (hb : Below w0.heap.size w0 w) :
    Calls Tryz.prog 58 #[.slice A n c, .agg #[.int .i64 10, .string s, .int .i64 m, .int .i64 a, .int .i64 b]] w fun e w' => e = .returned (.int .i64 (ckE L 10 s m a b)) ∧ Below w.heap.size w w' := by
  have HP := Lib.hid (hp.up hb)
  have HN := Lib.hid hn
  clear hp hb hn
  have hB : Below w.heap.size w w := Below.refl _ _
  have e0 : cnQ ⟨0, s, m, 0, 0⟩ cnZ = fmB 10 s m a b := by cases hs : s.toList <;> simp [cnQ, fmB, cnZ, s_nil, mtB, hs]
  have e1 : ∀ w, (binOp .neq 80 (.agg #[.int .i64 0, .string s, .int .i64 m, .int .i64 0, .int .i64 0]) (.agg #[.int .i64 0, .string ⟨#[]⟩, .int .i64 0, .int .i64 0, .int .i64 0])).run Tryz.prog w = .ok (.bool (!fmB 10 s m a b)) w := fun w => by rw [← e0]; exact cn_neq ⟨0, s, m, 0, 0⟩ cnZ w
  clear e0
  cases hf : fmB 10 s m a b
  all_goals
    rw [hf] at e1
    go_enter Tryz.func58, Tryz.ntmps58
    go_wp2_with (first | (go_at_call 69; refine (tli_any _ _).mono ?_; rintro e w1 ⟨rfl, hb1⟩; obtain ⟨hc1, hf1⟩ := bcell hb1; have hz1 := hb1.size; (try simp only [World.size_alloc, World.size_setCell] at hz1); (try have hza : w.heap.size < w1.heap.size := by omega); (try have hzb : w.heap.size + 1 < w1.heap.size := by omega); (try have hzc : w.heap.size + 1 + 1 < w1.heap.size := by omega); (try have hzd : wa.heap.size < w1.heap.size := by omega); (try replace hR := (hb1.block w.heap.size (by first | exact lt_heap hR | (have := lt_heap hR; simp; omega))).trans (by first | with_reducible exact hR | with_reducible exact laid_old hR)); replace hB := below_on (w := w) ((by repeat (first | with_reducible exact hB | with_reducible exact Below.refl _ _ | with_reducible refine below_al ?_ _ | with_reducible refine below_st ?_ (by first | exact Nat.le_refl _ | exact Nat.le_add_right _ _ | (simp; omega)) _))) hb1; clear hb1) | (go_at_call 70; refine (chx_10 _ _ _ _ hS HN.out hN HP.out _ (by repeat (first | with_reducible exact hB | with_reducible exact Below.refl _ _ | with_reducible refine below_al ?_ _ | with_reducible refine below_st ?_ (by first | exact Nat.le_refl _ | exact Nat.le_add_right _ _ | (simp; omega)) _))).mono ?_; rintro e w1 ⟨rfl, hb1⟩; obtain ⟨hc1, hf1⟩ := bcell hb1; have hz1 := hb1.size; (try simp only [World.size_alloc, World.size_setCell] at hz1); (try have hza : w.heap.size < w1.heap.size := by omega); (try have hzb : w.heap.size + 1 < w1.heap.size := by omega); (try have hzc : w.heap.size + 1 + 1 < w1.heap.size := by omega); (try have hzd : wa.heap.size < w1.heap.size := by omega); (try replace hR := (hb1.block w.heap.size (by first | exact lt_heap hR | (have := lt_heap hR; simp; omega))).trans (by first | with_reducible exact hR | with_reducible exact laid_old hR)); replace hB := below_on (w := w) ((by repeat (first | with_reducible exact hB | with_reducible exact Below.refl _ _ | with_reducible refine below_al ?_ _ | with_reducible refine below_st ?_ (by first | exact Nat.le_refl _ | exact Nat.le_add_right _ _ | (simp; omega)) _))) hb1; clear hb1))
    all_goals go_ret
  · exact ⟨by rw [ck_mal rfl hf]; rfl, (by repeat (first | with_reducible exact hB | with_reducible exact Below.refl _ _ | with_reducible refine below_al ?_ _ | with_reducible refine below_st ?_ (by first | exact Nat.le_refl _ | exact Nat.le_add_right _ _ | (simp; omega)) _))⟩
  · exact ⟨by rw [ck_ix (by omega) rfl hf]; rfl, (by repeat (first | with_reducible exact hB | with_reducible exact Below.refl _ _ | with_reducible refine below_al ?_ _ | with_reducible refine below_st ?_ (by first | exact Nat.le_refl _ | exact Nat.le_add_right _ _ | (simp; omega)) _))⟩

set_option maxRecDepth 100000 in
set_option maxHeartbeats 1000000 in
theorem ckc_11 {w0 : World} {A : Option Addr} {n c : Nat} {L : List Cn} (s : ByteArray) (m a b : Int) (hS : Fits L) (hn : L.length = n) (hN : n ≤ 100000) (hp : Pool w0 w0.heap.size A L) (w : World) (hb : Below w0.heap.size w0 w) :
    Calls Tryz.prog 58 #[.slice A n c, .agg #[.int .i64 11, .string s, .int .i64 m, .int .i64 a, .int .i64 b]] w fun e w' => e = .returned (.int .i64 (ckE L 11 s m a b)) ∧ Below w.heap.size w w' := by
  have HP := Lib.hid (hp.up hb)
  have HN := Lib.hid hn
  clear hp hb hn
  have hB : Below w.heap.size w w := Below.refl _ _
  have e0 : cnQ ⟨0, s, m, 0, 0⟩ cnZ = fmB 11 s m a b := by cases hs : s.toList <;> simp [cnQ, fmB, cnZ, s_nil, mtB, hs]
  have e1 : ∀ w, (binOp .neq 80 (.agg #[.int .i64 0, .string s, .int .i64 m, .int .i64 0, .int .i64 0]) (.agg #[.int .i64 0, .string ⟨#[]⟩, .int .i64 0, .int .i64 0, .int .i64 0])).run Tryz.prog w = .ok (.bool (!fmB 11 s m a b)) w := fun w => by rw [← e0]; exact cn_neq ⟨0, s, m, 0, 0⟩ cnZ w
  clear e0
  cases hf : fmB 11 s m a b
  all_goals
    rw [hf] at e1
    go_enter Tryz.func58, Tryz.ntmps58
    go_wp2_with (first | (go_at_call 69; refine (tli_any _ _).mono ?_; rintro e w1 ⟨rfl, hb1⟩; obtain ⟨hc1, hf1⟩ := bcell hb1; have hz1 := hb1.size; (try simp only [World.size_alloc, World.size_setCell] at hz1); (try have hza : w.heap.size < w1.heap.size := by omega); (try have hzb : w.heap.size + 1 < w1.heap.size := by omega); (try have hzc : w.heap.size + 1 + 1 < w1.heap.size := by omega); (try have hzd : wa.heap.size < w1.heap.size := by omega); (try replace hR := (hb1.block w.heap.size (by first | exact lt_heap hR | (have := lt_heap hR; simp; omega))).trans (by first | with_reducible exact hR | with_reducible exact laid_old hR)); replace hB := below_on (w := w) ((by repeat (first | with_reducible exact hB | with_reducible exact Below.refl _ _ | with_reducible refine below_al ?_ _ | with_reducible refine below_st ?_ (by first | exact Nat.le_refl _ | exact Nat.le_add_right _ _ | (simp; omega)) _))) hb1; clear hb1) | (go_at_call 70; refine (chx_11 _ _ _ _ hS HN.out hN HP.out _ (by repeat (first | with_reducible exact hB | with_reducible exact Below.refl _ _ | with_reducible refine below_al ?_ _ | with_reducible refine below_st ?_ (by first | exact Nat.le_refl _ | exact Nat.le_add_right _ _ | (simp; omega)) _))).mono ?_; rintro e w1 ⟨rfl, hb1⟩; obtain ⟨hc1, hf1⟩ := bcell hb1; have hz1 := hb1.size; (try simp only [World.size_alloc, World.size_setCell] at hz1); (try have hza : w.heap.size < w1.heap.size := by omega); (try have hzb : w.heap.size + 1 < w1.heap.size := by omega); (try have hzc : w.heap.size + 1 + 1 < w1.heap.size := by omega); (try have hzd : wa.heap.size < w1.heap.size := by omega); (try replace hR := (hb1.block w.heap.size (by first | exact lt_heap hR | (have := lt_heap hR; simp; omega))).trans (by first | with_reducible exact hR | with_reducible exact laid_old hR)); replace hB := below_on (w := w) ((by repeat (first | with_reducible exact hB | with_reducible exact Below.refl _ _ | with_reducible refine below_al ?_ _ | with_reducible refine below_st ?_ (by first | exact Nat.le_refl _ | exact Nat.le_add_right _ _ | (simp; omega)) _))) hb1; clear hb1))
    all_goals go_ret
  · exact ⟨by rw [ck_mal rfl hf]; rfl, (by repeat (first | with_reducible exact hB | with_reducible exact Below.refl _ _ | with_reducible refine below_al ?_ _ | with_reducible refine below_st ?_ (by first | exact Nat.le_refl _ | exact Nat.le_add_right _ _ | (simp; omega)) _))⟩
  · exact ⟨by rw [ck_ix (by omega) rfl hf]; rfl, (by repeat (first | with_reducible exact hB | with_reducible exact Below.refl _ _ | with_reducible refine below_al ?_ _ | with_reducible refine below_st ?_ (by first | exact Nat.le_refl _ | exact Nat.le_add_right _ _ | (simp; omega)) _))⟩

set_option maxRecDepth 100000 in
set_option maxHeartbeats 1000000 in
theorem ckc_u {w0 : World} {A : Option Addr} {n c : Nat} {L : List Cn} (t : Int) (hk : knB t = false) (s : ByteArray) (m a b : Int) (hS : Fits L) (hn : L.length = n) (hN : n ≤ 100000) (hp : Pool w0 w0.heap.size A L) (w : World) (hb : Below w0.heap.size w0 w) :
    Calls Tryz.prog 58 #[.slice A n c, .agg #[.int .i64 t, .string s, .int .i64 m, .int .i64 a, .int .i64 b]] w fun e w' => e = .returned (.int .i64 (ckE L t s m a b)) ∧ Below w.heap.size w w' := by
  have HP := Lib.hid (hp.up hb)
  have HN := Lib.hid hn
  clear hp hb hn
  have hB : Below w.heap.size w w := Below.refl _ _
  have hne : ¬ t = 1 ∧ ¬ t = 3 ∧ ¬ t = 5 ∧ ¬ t = 7 ∧ ¬ t = 8 ∧ ¬ t = 12 ∧ ¬ t = 9 ∧ ¬ t = 10 ∧ ¬ t = 11 := by
    refine ⟨?_, ?_, ?_, ?_, ?_, ?_, ?_, ?_, ?_⟩ <;> (rintro rfl; revert hk; decide)
  obtain ⟨h1, h3, h5, h7, h8, h12, h9, h10, h11⟩ := hne
  have g1 := beqF h1
  have g3 := beqF h3
  have g5 := beqF h5
  have g7 := beqF h7
  have g8 := beqF h8
  have g12 := beqF h12
  have g9 := beqF h9
  have g10 := beqF h10
  have g11 := beqF h11
  clear h1 h3 h5 h7 h8 h12 h9 h10 h11
  go_enter Tryz.func58, Tryz.ntmps58
  go_wp2
  go_ret
  exact ⟨by rw [ck_un hk]; rfl, (by repeat (first | with_reducible exact hB | with_reducible exact Below.refl _ _ | with_reducible refine below_al ?_ _ | with_reducible refine below_st ?_ (by first | exact Nat.le_refl _ | exact Nat.le_add_right _ _ | (simp; omega)) _))⟩

set_option maxRecDepth 100000 in
set_option maxHeartbeats 1000000 in
theorem cck_any {w0 : World} {A : Option Addr} {n c : Nat} {L : List Cn} (t : Int) (s : ByteArray) (m a b : Int) (hS : Fits L) (hn : L.length = n) (hN : n ≤ 100000) (hp : Pool w0 w0.heap.size A L) (w : World) (hb : Below w0.heap.size w0 w) :
    Calls Tryz.prog 58 #[.slice A n c, .agg #[.int .i64 t, .string s, .int .i64 m, .int .i64 a, .int .i64 b]] w fun e w' => e = .returned (.int .i64 (ckE L t s m a b)) ∧ Below w.heap.size w w' := by
  cases hk : knB t with
  | false => exact ckc_u t hk s m a b hS hn hN hp w hb
  | true =>
    rcases kn_cases hk with rfl | rfl | rfl | rfl | rfl | rfl | rfl | rfl | rfl
    · exact ckc_1 s m a b hS hn hN hp w hb
    · exact ckc_3 s m a b hS hn hN hp w hb
    · exact ckc_5 s m a b hS hn hN hp w hb
    · exact ckc_7 s m a b hS hn hN hp w hb
    · exact ckc_8 s m a b hS hn hN hp w hb
    · exact ckc_12 s m a b hS hn hN hp w hb
    · exact ckc_9 s m a b hS hn hN hp w hb
    · exact ckc_10 s m a b hS hn hN hp w hb
    · exact ckc_11 s m a b hS hn hN hp w hb

set_option maxRecDepth 100000 in
set_option maxHeartbeats 1000000 in
theorem rck_1 {w0 : World} {A : Option Addr} {n c : Nat} {L : List Cn} (s : ByteArray) (m a b : Int) (hS : Short L) (hn : L.length = n) (hN : n ≤ 100000) (hp : Pool w0 w0.heap.size A L) (w : World) (hb : Below w0.heap.size w0 w) :
    Calls Tryz.prog 62 #[.slice A n c, .agg #[.int .i64 1, .string s, .int .i64 m, .int .i64 a, .int .i64 b]] w fun e w' => e = .returned (.int .i64 (ckE L 1 s m a b)) ∧ Below w.heap.size w w' := by
  have HP := Lib.hid (hp.up hb)
  have HN := Lib.hid hn
  clear hp hb hn
  have hB : Below w.heap.size w w := Below.refl _ _
  have hk : knB 1 = true := rfl
  go_enter Tryz.func62, Tryz.ntmps62
  go_wp2_with (first | (go_at_call 71; refine (known_any _ _).mono ?_; rintro e w1 ⟨rfl, hb1⟩; obtain ⟨hc1, hf1⟩ := bcell hb1; have hz1 := hb1.size; (try simp only [World.size_alloc, World.size_setCell] at hz1); (try have hza : w.heap.size < w1.heap.size := by omega); (try have hzb : w.heap.size + 1 < w1.heap.size := by omega); (try have hzc : w.heap.size + 1 + 1 < w1.heap.size := by omega); (try have hzd : wa.heap.size < w1.heap.size := by omega); (try replace hR := (hb1.block w.heap.size (by first | exact lt_heap hR | (have := lt_heap hR; simp; omega))).trans (by first | with_reducible exact hR | with_reducible exact laid_old hR)); replace hB := below_on (w := w) ((by repeat (first | with_reducible exact hB | with_reducible exact Below.refl _ _ | with_reducible refine below_al ?_ _ | with_reducible refine below_st ?_ (by first | exact Nat.le_refl _ | exact Nat.le_add_right _ _ | (simp; omega)) _))) hb1; clear hb1) | (go_at_call 72; refine (formed_any 1 s m a b _).mono ?_; rintro e w1 ⟨rfl, hb1⟩; obtain ⟨hc1, hf1⟩ := bcell hb1; have hz1 := hb1.size; (try simp only [World.size_alloc, World.size_setCell] at hz1); (try have hza : w.heap.size < w1.heap.size := by omega); (try have hzb : w.heap.size + 1 < w1.heap.size := by omega); (try have hzc : w.heap.size + 1 + 1 < w1.heap.size := by omega); (try have hzd : wa.heap.size < w1.heap.size := by omega); (try replace hR := (hb1.block w.heap.size (by first | exact lt_heap hR | (have := lt_heap hR; simp; omega))).trans (by first | with_reducible exact hR | with_reducible exact laid_old hR)); replace hB := below_on (w := w) ((by repeat (first | with_reducible exact hB | with_reducible exact Below.refl _ _ | with_reducible refine below_al ?_ _ | with_reducible refine below_st ?_ (by first | exact Nat.le_refl _ | exact Nat.le_add_right _ _ | (simp; omega)) _))) hb1; clear hb1))
  all_goals go_ret
  · exact ⟨by rw [ck_mal rfl (notT (by assumption))]; rfl, (by repeat (first | with_reducible exact hB | with_reducible exact Below.refl _ _ | with_reducible refine below_al ?_ _ | with_reducible refine below_st ?_ (by first | exact Nat.le_refl _ | exact Nat.le_add_right _ _ | (simp; omega)) _))⟩
  · exact ⟨by rw [ck1_0 (notF (by assumption)) (by omega)]; rfl, (by repeat (first | with_reducible exact hB | with_reducible exact Below.refl _ _ | with_reducible refine below_al ?_ _ | with_reducible refine below_st ?_ (by first | exact Nat.le_refl _ | exact Nat.le_add_right _ _ | (simp; omega)) _))⟩
  · exact ⟨by rw [ck1_8 (notF (by assumption)) (by omega)]; rfl, (by repeat (first | with_reducible exact hB | with_reducible exact Below.refl _ _ | with_reducible refine below_al ?_ _ | with_reducible refine below_st ?_ (by first | exact Nat.le_refl _ | exact Nat.le_add_right _ _ | (simp; omega)) _))⟩

set_option maxRecDepth 100000 in
set_option maxHeartbeats 1000000 in
theorem rck_3 {w0 : World} {A : Option Addr} {n c : Nat} {L : List Cn} (s : ByteArray) (m a b : Int) (hS : Short L) (hn : L.length = n) (hN : n ≤ 100000) (hp : Pool w0 w0.heap.size A L) (w : World) (hb : Below w0.heap.size w0 w) :
    Calls Tryz.prog 62 #[.slice A n c, .agg #[.int .i64 3, .string s, .int .i64 m, .int .i64 a, .int .i64 b]] w fun e w' => e = .returned (.int .i64 (ckE L 3 s m a b)) ∧ Below w.heap.size w w' := by
  have HP := Lib.hid (hp.up hb)
  have HN := Lib.hid hn
  clear hp hb hn
  have hB : Below w.heap.size w w := Below.refl _ _
  have hk : knB 3 = true := rfl
  go_enter Tryz.func62, Tryz.ntmps62
  go_wp2_with (first | (go_at_call 71; refine (known_any _ _).mono ?_; rintro e w1 ⟨rfl, hb1⟩; obtain ⟨hc1, hf1⟩ := bcell hb1; have hz1 := hb1.size; (try simp only [World.size_alloc, World.size_setCell] at hz1); (try have hza : w.heap.size < w1.heap.size := by omega); (try have hzb : w.heap.size + 1 < w1.heap.size := by omega); (try have hzc : w.heap.size + 1 + 1 < w1.heap.size := by omega); (try have hzd : wa.heap.size < w1.heap.size := by omega); (try replace hR := (hb1.block w.heap.size (by first | exact lt_heap hR | (have := lt_heap hR; simp; omega))).trans (by first | with_reducible exact hR | with_reducible exact laid_old hR)); replace hB := below_on (w := w) ((by repeat (first | with_reducible exact hB | with_reducible exact Below.refl _ _ | with_reducible refine below_al ?_ _ | with_reducible refine below_st ?_ (by first | exact Nat.le_refl _ | exact Nat.le_add_right _ _ | (simp; omega)) _))) hb1; clear hb1) | (go_at_call 72; refine (formed_any 3 s m a b _).mono ?_; rintro e w1 ⟨rfl, hb1⟩; obtain ⟨hc1, hf1⟩ := bcell hb1; have hz1 := hb1.size; (try simp only [World.size_alloc, World.size_setCell] at hz1); (try have hza : w.heap.size < w1.heap.size := by omega); (try have hzb : w.heap.size + 1 < w1.heap.size := by omega); (try have hzc : w.heap.size + 1 + 1 < w1.heap.size := by omega); (try have hzd : wa.heap.size < w1.heap.size := by omega); (try replace hR := (hb1.block w.heap.size (by first | exact lt_heap hR | (have := lt_heap hR; simp; omega))).trans (by first | with_reducible exact hR | with_reducible exact laid_old hR)); replace hB := below_on (w := w) ((by repeat (first | with_reducible exact hB | with_reducible exact Below.refl _ _ | with_reducible refine below_al ?_ _ | with_reducible refine below_st ?_ (by first | exact Nat.le_refl _ | exact Nat.le_add_right _ _ | (simp; omega)) _))) hb1; clear hb1))
  all_goals go_ret
  · exact ⟨by rw [ck_mal rfl (notT (by assumption))]; rfl, (by repeat (first | with_reducible exact hB | with_reducible exact Below.refl _ _ | with_reducible refine below_al ?_ _ | with_reducible refine below_st ?_ (by first | exact Nat.le_refl _ | exact Nat.le_add_right _ _ | (simp; omega)) _))⟩
  · exact ⟨by rw [ck3_8 (notF (by assumption)) (by omega)]; rfl, (by repeat (first | with_reducible exact hB | with_reducible exact Below.refl _ _ | with_reducible refine below_al ?_ _ | with_reducible refine below_st ?_ (by first | exact Nat.le_refl _ | exact Nat.le_add_right _ _ | (simp; omega)) _))⟩
  · exact ⟨by rw [ck3_0 (notF (by assumption)) (by omega)]; rfl, (by repeat (first | with_reducible exact hB | with_reducible exact Below.refl _ _ | with_reducible refine below_al ?_ _ | with_reducible refine below_st ?_ (by first | exact Nat.le_refl _ | exact Nat.le_add_right _ _ | (simp; omega)) _))⟩
  · exact ⟨by rw [ck3_8 (notF (by assumption)) (by omega)]; rfl, (by repeat (first | with_reducible exact hB | with_reducible exact Below.refl _ _ | with_reducible refine below_al ?_ _ | with_reducible refine below_st ?_ (by first | exact Nat.le_refl _ | exact Nat.le_add_right _ _ | (simp; omega)) _))⟩

set_option maxRecDepth 100000 in
set_option maxHeartbeats 1000000 in
theorem rck_5 {w0 : World} {A : Option Addr} {n c : Nat} {L : List Cn} (s : ByteArray) (m a b : Int) (hS : Short L) (hn : L.length = n) (hN : n ≤ 100000) (hp : Pool w0 w0.heap.size A L) (w : World) (hb : Below w0.heap.size w0 w) :
    Calls Tryz.prog 62 #[.slice A n c, .agg #[.int .i64 5, .string s, .int .i64 m, .int .i64 a, .int .i64 b]] w fun e w' => e = .returned (.int .i64 (ckE L 5 s m a b)) ∧ Below w.heap.size w w' := by
  have HP := Lib.hid (hp.up hb)
  have HN := Lib.hid hn
  clear hp hb hn
  have hB : Below w.heap.size w w := Below.refl _ _
  have hk : knB 5 = true := rfl
  go_enter Tryz.func62, Tryz.ntmps62
  go_wp2_with (first | (go_at_call 71; refine (known_any _ _).mono ?_; rintro e w1 ⟨rfl, hb1⟩; obtain ⟨hc1, hf1⟩ := bcell hb1; have hz1 := hb1.size; (try simp only [World.size_alloc, World.size_setCell] at hz1); (try have hza : w.heap.size < w1.heap.size := by omega); (try have hzb : w.heap.size + 1 < w1.heap.size := by omega); (try have hzc : w.heap.size + 1 + 1 < w1.heap.size := by omega); (try have hzd : wa.heap.size < w1.heap.size := by omega); (try replace hR := (hb1.block w.heap.size (by first | exact lt_heap hR | (have := lt_heap hR; simp; omega))).trans (by first | with_reducible exact hR | with_reducible exact laid_old hR)); replace hB := below_on (w := w) ((by repeat (first | with_reducible exact hB | with_reducible exact Below.refl _ _ | with_reducible refine below_al ?_ _ | with_reducible refine below_st ?_ (by first | exact Nat.le_refl _ | exact Nat.le_add_right _ _ | (simp; omega)) _))) hb1; clear hb1) | (go_at_call 72; refine (formed_any 5 s m a b _).mono ?_; rintro e w1 ⟨rfl, hb1⟩; obtain ⟨hc1, hf1⟩ := bcell hb1; have hz1 := hb1.size; (try simp only [World.size_alloc, World.size_setCell] at hz1); (try have hza : w.heap.size < w1.heap.size := by omega); (try have hzb : w.heap.size + 1 < w1.heap.size := by omega); (try have hzc : w.heap.size + 1 + 1 < w1.heap.size := by omega); (try have hzd : wa.heap.size < w1.heap.size := by omega); (try replace hR := (hb1.block w.heap.size (by first | exact lt_heap hR | (have := lt_heap hR; simp; omega))).trans (by first | with_reducible exact hR | with_reducible exact laid_old hR)); replace hB := below_on (w := w) ((by repeat (first | with_reducible exact hB | with_reducible exact Below.refl _ _ | with_reducible refine below_al ?_ _ | with_reducible refine below_st ?_ (by first | exact Nat.le_refl _ | exact Nat.le_add_right _ _ | (simp; omega)) _))) hb1; clear hb1))
  all_goals go_ret
  · exact ⟨by rw [ck_mal rfl (notT (by assumption))]; rfl, (by repeat (first | with_reducible exact hB | with_reducible exact Below.refl _ _ | with_reducible refine below_al ?_ _ | with_reducible refine below_st ?_ (by first | exact Nat.le_refl _ | exact Nat.le_add_right _ _ | (simp; omega)) _))⟩
  · exact ⟨by rw [ck5_0 (notF (by assumption))]; rfl, (by repeat (first | with_reducible exact hB | with_reducible exact Below.refl _ _ | with_reducible refine below_al ?_ _ | with_reducible refine below_st ?_ (by first | exact Nat.le_refl _ | exact Nat.le_add_right _ _ | (simp; omega)) _))⟩

set_option maxRecDepth 100000 in
set_option maxHeartbeats 1000000 in
theorem rck_7 {w0 : World} {A : Option Addr} {n c : Nat} {L : List Cn} (s : ByteArray) (m a b : Int) (hS : Short L) (hn : L.length = n) (hN : n ≤ 100000) (hp : Pool w0 w0.heap.size A L) (w : World) (hb : Below w0.heap.size w0 w) :
    Calls Tryz.prog 62 #[.slice A n c, .agg #[.int .i64 7, .string s, .int .i64 m, .int .i64 a, .int .i64 b]] w fun e w' => e = .returned (.int .i64 (ckE L 7 s m a b)) ∧ Below w.heap.size w w' := by
  have HP := Lib.hid (hp.up hb)
  have HN := Lib.hid hn
  clear hp hb hn
  have hB : Below w.heap.size w w := Below.refl _ _
  have hk : knB 7 = true := rfl
  go_enter Tryz.func62, Tryz.ntmps62
  go_wp2_with (first | (go_at_call 71; refine (known_any _ _).mono ?_; rintro e w1 ⟨rfl, hb1⟩; obtain ⟨hc1, hf1⟩ := bcell hb1; have hz1 := hb1.size; (try simp only [World.size_alloc, World.size_setCell] at hz1); (try have hza : w.heap.size < w1.heap.size := by omega); (try have hzb : w.heap.size + 1 < w1.heap.size := by omega); (try have hzc : w.heap.size + 1 + 1 < w1.heap.size := by omega); (try have hzd : wa.heap.size < w1.heap.size := by omega); (try replace hR := (hb1.block w.heap.size (by first | exact lt_heap hR | (have := lt_heap hR; simp; omega))).trans (by first | with_reducible exact hR | with_reducible exact laid_old hR)); replace hB := below_on (w := w) ((by repeat (first | with_reducible exact hB | with_reducible exact Below.refl _ _ | with_reducible refine below_al ?_ _ | with_reducible refine below_st ?_ (by first | exact Nat.le_refl _ | exact Nat.le_add_right _ _ | (simp; omega)) _))) hb1; clear hb1) | (go_at_call 72; refine (formed_any 7 s m a b _).mono ?_; rintro e w1 ⟨rfl, hb1⟩; obtain ⟨hc1, hf1⟩ := bcell hb1; have hz1 := hb1.size; (try simp only [World.size_alloc, World.size_setCell] at hz1); (try have hza : w.heap.size < w1.heap.size := by omega); (try have hzb : w.heap.size + 1 < w1.heap.size := by omega); (try have hzc : w.heap.size + 1 + 1 < w1.heap.size := by omega); (try have hzd : wa.heap.size < w1.heap.size := by omega); (try replace hR := (hb1.block w.heap.size (by first | exact lt_heap hR | (have := lt_heap hR; simp; omega))).trans (by first | with_reducible exact hR | with_reducible exact laid_old hR)); replace hB := below_on (w := w) ((by repeat (first | with_reducible exact hB | with_reducible exact Below.refl _ _ | with_reducible refine below_al ?_ _ | with_reducible refine below_st ?_ (by first | exact Nat.le_refl _ | exact Nat.le_add_right _ _ | (simp; omega)) _))) hb1; clear hb1) | (go_at_call 73; refine (bth_7 _ _ _ _ HN.out hN HP.out _ (by repeat (first | with_reducible exact hB | with_reducible exact Below.refl _ _ | with_reducible refine below_al ?_ _ | with_reducible refine below_st ?_ (by first | exact Nat.le_refl _ | exact Nat.le_add_right _ _ | (simp; omega)) _))).mono ?_; rintro e w1 ⟨rfl, hb1⟩; obtain ⟨hc1, hf1⟩ := bcell hb1; have hz1 := hb1.size; (try simp only [World.size_alloc, World.size_setCell] at hz1); (try have hza : w.heap.size < w1.heap.size := by omega); (try have hzb : w.heap.size + 1 < w1.heap.size := by omega); (try have hzc : w.heap.size + 1 + 1 < w1.heap.size := by omega); (try have hzd : wa.heap.size < w1.heap.size := by omega); (try replace hR := (hb1.block w.heap.size (by first | exact lt_heap hR | (have := lt_heap hR; simp; omega))).trans (by first | with_reducible exact hR | with_reducible exact laid_old hR)); replace hB := below_on (w := w) ((by repeat (first | with_reducible exact hB | with_reducible exact Below.refl _ _ | with_reducible refine below_al ?_ _ | with_reducible refine below_st ?_ (by first | exact Nat.le_refl _ | exact Nat.le_add_right _ _ | (simp; omega)) _))) hb1; clear hb1) | (go_at_call 74; refine (con_7 _ _ _ _ hS HN.out hN HP.out _ (by repeat (first | with_reducible exact hB | with_reducible exact Below.refl _ _ | with_reducible refine below_al ?_ _ | with_reducible refine below_st ?_ (by first | exact Nat.le_refl _ | exact Nat.le_add_right _ _ | (simp; omega)) _))).mono ?_; rintro e w1 ⟨rfl, hb1⟩; obtain ⟨hc1, hf1⟩ := bcell hb1; have hz1 := hb1.size; (try simp only [World.size_alloc, World.size_setCell] at hz1); (try have hza : w.heap.size < w1.heap.size := by omega); (try have hzb : w.heap.size + 1 < w1.heap.size := by omega); (try have hzc : w.heap.size + 1 + 1 < w1.heap.size := by omega); (try have hzd : wa.heap.size < w1.heap.size := by omega); (try replace hR := (hb1.block w.heap.size (by first | exact lt_heap hR | (have := lt_heap hR; simp; omega))).trans (by first | with_reducible exact hR | with_reducible exact laid_old hR)); replace hB := below_on (w := w) ((by repeat (first | with_reducible exact hB | with_reducible exact Below.refl _ _ | with_reducible refine below_al ?_ _ | with_reducible refine below_st ?_ (by first | exact Nat.le_refl _ | exact Nat.le_add_right _ _ | (simp; omega)) _))) hb1; clear hb1))
  all_goals go_ret
  · exact ⟨by rw [ck_mal rfl (notT (by assumption))]; rfl, (by repeat (first | with_reducible exact hB | with_reducible exact Below.refl _ _ | with_reducible refine below_al ?_ _ | with_reducible refine below_st ?_ (by first | exact Nat.le_refl _ | exact Nat.le_add_right _ _ | (simp; omega)) _))⟩
  · exact ⟨by rw [ck_ix (by omega) rfl (notF (by assumption)), ix_bad (bneT (by with_reducible assumption))]; rfl, (by repeat (first | with_reducible exact hB | with_reducible exact Below.refl _ _ | with_reducible refine below_al ?_ _ | with_reducible refine below_st ?_ (by first | exact Nat.le_refl _ | exact Nat.le_add_right _ _ | (simp; omega)) _))⟩
  · exact ⟨by rw [ck_ix (by omega) rfl (notF (by assumption)), ix_ok (bneF (by with_reducible assumption)), tx7]; rfl, (by repeat (first | with_reducible exact hB | with_reducible exact Below.refl _ _ | with_reducible refine below_al ?_ _ | with_reducible refine below_st ?_ (by first | exact Nat.le_refl _ | exact Nat.le_add_right _ _ | (simp; omega)) _))⟩

set_option maxRecDepth 100000 in
set_option maxHeartbeats 1000000 in
theorem rck_8 {w0 : World} {A : Option Addr} {n c : Nat} {L : List Cn} (s : ByteArray) (m a b : Int) (hS : Short L) (hn : L.length = n) (hN : n ≤ 100000) (hp : Pool w0 w0.heap.size A L) (w : World) (hb : Below w0.heap.size w0 w) :
    Calls Tryz.prog 62 #[.slice A n c, .agg #[.int .i64 8, .string s, .int .i64 m, .int .i64 a, .int .i64 b]] w fun e w' => e = .returned (.int .i64 (ckE L 8 s m a b)) ∧ Below w.heap.size w w' := by
  have HP := Lib.hid (hp.up hb)
  have HN := Lib.hid hn
  clear hp hb hn
  have hB : Below w.heap.size w w := Below.refl _ _
  have hk : knB 8 = true := rfl
  go_enter Tryz.func62, Tryz.ntmps62
  go_wp2_with (first | (go_at_call 71; refine (known_any _ _).mono ?_; rintro e w1 ⟨rfl, hb1⟩; obtain ⟨hc1, hf1⟩ := bcell hb1; have hz1 := hb1.size; (try simp only [World.size_alloc, World.size_setCell] at hz1); (try have hza : w.heap.size < w1.heap.size := by omega); (try have hzb : w.heap.size + 1 < w1.heap.size := by omega); (try have hzc : w.heap.size + 1 + 1 < w1.heap.size := by omega); (try have hzd : wa.heap.size < w1.heap.size := by omega); (try replace hR := (hb1.block w.heap.size (by first | exact lt_heap hR | (have := lt_heap hR; simp; omega))).trans (by first | with_reducible exact hR | with_reducible exact laid_old hR)); replace hB := below_on (w := w) ((by repeat (first | with_reducible exact hB | with_reducible exact Below.refl _ _ | with_reducible refine below_al ?_ _ | with_reducible refine below_st ?_ (by first | exact Nat.le_refl _ | exact Nat.le_add_right _ _ | (simp; omega)) _))) hb1; clear hb1) | (go_at_call 72; refine (formed_any 8 s m a b _).mono ?_; rintro e w1 ⟨rfl, hb1⟩; obtain ⟨hc1, hf1⟩ := bcell hb1; have hz1 := hb1.size; (try simp only [World.size_alloc, World.size_setCell] at hz1); (try have hza : w.heap.size < w1.heap.size := by omega); (try have hzb : w.heap.size + 1 < w1.heap.size := by omega); (try have hzc : w.heap.size + 1 + 1 < w1.heap.size := by omega); (try have hzd : wa.heap.size < w1.heap.size := by omega); (try replace hR := (hb1.block w.heap.size (by first | exact lt_heap hR | (have := lt_heap hR; simp; omega))).trans (by first | with_reducible exact hR | with_reducible exact laid_old hR)); replace hB := below_on (w := w) ((by repeat (first | with_reducible exact hB | with_reducible exact Below.refl _ _ | with_reducible refine below_al ?_ _ | with_reducible refine below_st ?_ (by first | exact Nat.le_refl _ | exact Nat.le_add_right _ _ | (simp; omega)) _))) hb1; clear hb1) | (go_at_call 73; refine (bth_8 _ _ _ _ HN.out hN HP.out _ (by repeat (first | with_reducible exact hB | with_reducible exact Below.refl _ _ | with_reducible refine below_al ?_ _ | with_reducible refine below_st ?_ (by first | exact Nat.le_refl _ | exact Nat.le_add_right _ _ | (simp; omega)) _))).mono ?_; rintro e w1 ⟨rfl, hb1⟩; obtain ⟨hc1, hf1⟩ := bcell hb1; have hz1 := hb1.size; (try simp only [World.size_alloc, World.size_setCell] at hz1); (try have hza : w.heap.size < w1.heap.size := by omega); (try have hzb : w.heap.size + 1 < w1.heap.size := by omega); (try have hzc : w.heap.size + 1 + 1 < w1.heap.size := by omega); (try have hzd : wa.heap.size < w1.heap.size := by omega); (try replace hR := (hb1.block w.heap.size (by first | exact lt_heap hR | (have := lt_heap hR; simp; omega))).trans (by first | with_reducible exact hR | with_reducible exact laid_old hR)); replace hB := below_on (w := w) ((by repeat (first | with_reducible exact hB | with_reducible exact Below.refl _ _ | with_reducible refine below_al ?_ _ | with_reducible refine below_st ?_ (by first | exact Nat.le_refl _ | exact Nat.le_add_right _ _ | (simp; omega)) _))) hb1; clear hb1) | (go_at_call 74; refine (con_8 _ _ _ _ hS HN.out hN HP.out _ (by repeat (first | with_reducible exact hB | with_reducible exact Below.refl _ _ | with_reducible refine below_al ?_ _ | with_reducible refine below_st ?_ (by first | exact Nat.le_refl _ | exact Nat.le_add_right _ _ | (simp; omega)) _))).mono ?_; rintro e w1 ⟨rfl, hb1⟩; obtain ⟨hc1, hf1⟩ := bcell hb1; have hz1 := hb1.size; (try simp only [World.size_alloc, World.size_setCell] at hz1); (try have hza : w.heap.size < w1.heap.size := by omega); (try have hzb : w.heap.size + 1 < w1.heap.size := by omega); (try have hzc : w.heap.size + 1 + 1 < w1.heap.size := by omega); (try have hzd : wa.heap.size < w1.heap.size := by omega); (try replace hR := (hb1.block w.heap.size (by first | exact lt_heap hR | (have := lt_heap hR; simp; omega))).trans (by first | with_reducible exact hR | with_reducible exact laid_old hR)); replace hB := below_on (w := w) ((by repeat (first | with_reducible exact hB | with_reducible exact Below.refl _ _ | with_reducible refine below_al ?_ _ | with_reducible refine below_st ?_ (by first | exact Nat.le_refl _ | exact Nat.le_add_right _ _ | (simp; omega)) _))) hb1; clear hb1))
  all_goals go_ret
  · exact ⟨by rw [ck_mal rfl (notT (by assumption))]; rfl, (by repeat (first | with_reducible exact hB | with_reducible exact Below.refl _ _ | with_reducible refine below_al ?_ _ | with_reducible refine below_st ?_ (by first | exact Nat.le_refl _ | exact Nat.le_add_right _ _ | (simp; omega)) _))⟩
  · exact ⟨by rw [ck_ix (by omega) rfl (notF (by assumption)), ix_bad (bneT (by with_reducible assumption))]; rfl, (by repeat (first | with_reducible exact hB | with_reducible exact Below.refl _ _ | with_reducible refine below_al ?_ _ | with_reducible refine below_st ?_ (by first | exact Nat.le_refl _ | exact Nat.le_add_right _ _ | (simp; omega)) _))⟩
  · exact ⟨by rw [ck_ix (by omega) rfl (notF (by assumption)), ix_ok (bneF (by with_reducible assumption)), tx8]; rfl, (by repeat (first | with_reducible exact hB | with_reducible exact Below.refl _ _ | with_reducible refine below_al ?_ _ | with_reducible refine below_st ?_ (by first | exact Nat.le_refl _ | exact Nat.le_add_right _ _ | (simp; omega)) _))⟩

set_option maxRecDepth 100000 in
set_option maxHeartbeats 1000000 in
theorem rck_12 {w0 : World} {A : Option Addr} {n c : Nat} {L : List Cn} (s : ByteArray) (m a b : Int) (hS : Short L) (hn : L.length = n) (hN : n ≤ 100000) (hp : Pool w0 w0.heap.size A L) (w : World) (hb : Below w0.heap.size w0 w) :
    Calls Tryz.prog 62 #[.slice A n c, .agg #[.int .i64 12, .string s, .int .i64 m, .int .i64 a, .int .i64 b]] w fun e w' => e = .returned (.int .i64 (ckE L 12 s m a b)) ∧ Below w.heap.size w w' := by
  have HP := Lib.hid (hp.up hb)
  have HN := Lib.hid hn
  clear hp hb hn
  have hB : Below w.heap.size w w := Below.refl _ _
  have hk : knB 12 = true := rfl
  go_enter Tryz.func62, Tryz.ntmps62
  go_wp2_with (first | (go_at_call 71; refine (known_any _ _).mono ?_; rintro e w1 ⟨rfl, hb1⟩; obtain ⟨hc1, hf1⟩ := bcell hb1; have hz1 := hb1.size; (try simp only [World.size_alloc, World.size_setCell] at hz1); (try have hza : w.heap.size < w1.heap.size := by omega); (try have hzb : w.heap.size + 1 < w1.heap.size := by omega); (try have hzc : w.heap.size + 1 + 1 < w1.heap.size := by omega); (try have hzd : wa.heap.size < w1.heap.size := by omega); (try replace hR := (hb1.block w.heap.size (by first | exact lt_heap hR | (have := lt_heap hR; simp; omega))).trans (by first | with_reducible exact hR | with_reducible exact laid_old hR)); replace hB := below_on (w := w) ((by repeat (first | with_reducible exact hB | with_reducible exact Below.refl _ _ | with_reducible refine below_al ?_ _ | with_reducible refine below_st ?_ (by first | exact Nat.le_refl _ | exact Nat.le_add_right _ _ | (simp; omega)) _))) hb1; clear hb1) | (go_at_call 72; refine (formed_any 12 s m a b _).mono ?_; rintro e w1 ⟨rfl, hb1⟩; obtain ⟨hc1, hf1⟩ := bcell hb1; have hz1 := hb1.size; (try simp only [World.size_alloc, World.size_setCell] at hz1); (try have hza : w.heap.size < w1.heap.size := by omega); (try have hzb : w.heap.size + 1 < w1.heap.size := by omega); (try have hzc : w.heap.size + 1 + 1 < w1.heap.size := by omega); (try have hzd : wa.heap.size < w1.heap.size := by omega); (try replace hR := (hb1.block w.heap.size (by first | exact lt_heap hR | (have := lt_heap hR; simp; omega))).trans (by first | with_reducible exact hR | with_reducible exact laid_old hR)); replace hB := below_on (w := w) ((by repeat (first | with_reducible exact hB | with_reducible exact Below.refl _ _ | with_reducible refine below_al ?_ _ | with_reducible refine below_st ?_ (by first | exact Nat.le_refl _ | exact Nat.le_add_right _ _ | (simp; omega)) _))) hb1; clear hb1) | (go_at_call 73; refine (bth_12 _ _ _ _ HN.out hN HP.out _ (by repeat (first | with_reducible exact hB | with_reducible exact Below.refl _ _ | with_reducible refine below_al ?_ _ | with_reducible refine below_st ?_ (by first | exact Nat.le_refl _ | exact Nat.le_add_right _ _ | (simp; omega)) _))).mono ?_; rintro e w1 ⟨rfl, hb1⟩; obtain ⟨hc1, hf1⟩ := bcell hb1; have hz1 := hb1.size; (try simp only [World.size_alloc, World.size_setCell] at hz1); (try have hza : w.heap.size < w1.heap.size := by omega); (try have hzb : w.heap.size + 1 < w1.heap.size := by omega); (try have hzc : w.heap.size + 1 + 1 < w1.heap.size := by omega); (try have hzd : wa.heap.size < w1.heap.size := by omega); (try replace hR := (hb1.block w.heap.size (by first | exact lt_heap hR | (have := lt_heap hR; simp; omega))).trans (by first | with_reducible exact hR | with_reducible exact laid_old hR)); replace hB := below_on (w := w) ((by repeat (first | with_reducible exact hB | with_reducible exact Below.refl _ _ | with_reducible refine below_al ?_ _ | with_reducible refine below_st ?_ (by first | exact Nat.le_refl _ | exact Nat.le_add_right _ _ | (simp; omega)) _))) hb1; clear hb1) | (go_at_call 74; refine (con_12 _ _ _ _ hS HN.out hN HP.out _ (by repeat (first | with_reducible exact hB | with_reducible exact Below.refl _ _ | with_reducible refine below_al ?_ _ | with_reducible refine below_st ?_ (by first | exact Nat.le_refl _ | exact Nat.le_add_right _ _ | (simp; omega)) _))).mono ?_; rintro e w1 ⟨rfl, hb1⟩; obtain ⟨hc1, hf1⟩ := bcell hb1; have hz1 := hb1.size; (try simp only [World.size_alloc, World.size_setCell] at hz1); (try have hza : w.heap.size < w1.heap.size := by omega); (try have hzb : w.heap.size + 1 < w1.heap.size := by omega); (try have hzc : w.heap.size + 1 + 1 < w1.heap.size := by omega); (try have hzd : wa.heap.size < w1.heap.size := by omega); (try replace hR := (hb1.block w.heap.size (by first | exact lt_heap hR | (have := lt_heap hR; simp; omega))).trans (by first | with_reducible exact hR | with_reducible exact laid_old hR)); replace hB := below_on (w := w) ((by repeat (first | with_reducible exact hB | with_reducible exact Below.refl _ _ | with_reducible refine below_al ?_ _ | with_reducible refine below_st ?_ (by first | exact Nat.le_refl _ | exact Nat.le_add_right _ _ | (simp; omega)) _))) hb1; clear hb1))
  all_goals go_ret
  · exact ⟨by rw [ck_mal rfl (notT (by assumption))]; rfl, (by repeat (first | with_reducible exact hB | with_reducible exact Below.refl _ _ | with_reducible refine below_al ?_ _ | with_reducible refine below_st ?_ (by first | exact Nat.le_refl _ | exact Nat.le_add_right _ _ | (simp; omega)) _))⟩
  · exact ⟨by rw [ck_ix (by omega) rfl (notF (by assumption)), ix_bad (bneT (by with_reducible assumption))]; rfl, (by repeat (first | with_reducible exact hB | with_reducible exact Below.refl _ _ | with_reducible refine below_al ?_ _ | with_reducible refine below_st ?_ (by first | exact Nat.le_refl _ | exact Nat.le_add_right _ _ | (simp; omega)) _))⟩
  · exact ⟨by rw [ck_ix (by omega) rfl (notF (by assumption)), ix_ok (bneF (by with_reducible assumption)), tx12]; rfl, (by repeat (first | with_reducible exact hB | with_reducible exact Below.refl _ _ | with_reducible refine below_al ?_ _ | with_reducible refine below_st ?_ (by first | exact Nat.le_refl _ | exact Nat.le_add_right _ _ | (simp; omega)) _))⟩

set_option maxRecDepth 100000 in
set_option maxHeartbeats 1000000 in
theorem rck_9 {w0 : World} {A : Option Addr} {n c : Nat} {L : List Cn} (s : ByteArray) (m a b : Int) (hS : Short L) (hn : L.length = n) (hN : n ≤ 100000) (hp : Pool w0 w0.heap.size A L) (w : World) (hb : Below w0.heap.size w0 w) :
    Calls Tryz.prog 62 #[.slice A n c, .agg #[.int .i64 9, .string s, .int .i64 m, .int .i64 a, .int .i64 b]] w fun e w' => e = .returned (.int .i64 (ckE L 9 s m a b)) ∧ Below w.heap.size w w' := by
  have HP := Lib.hid (hp.up hb)
  have HN := Lib.hid hn
  clear hp hb hn
  have hB : Below w.heap.size w w := Below.refl _ _
  have hk : knB 9 = true := rfl
  go_enter Tryz.func62, Tryz.ntmps62
  go_wp2_with (first | (go_at_call 71; refine (known_any _ _).mono ?_; rintro e w1 ⟨rfl, hb1⟩; obtain ⟨hc1, hf1⟩ := bcell hb1; have hz1 := hb1.size; (try simp only [World.size_alloc, World.size_setCell] at hz1); (try have hza : w.heap.size < w1.heap.size := by omega); (try have hzb : w.heap.size + 1 < w1.heap.size := by omega); (try have hzc : w.heap.size + 1 + 1 < w1.heap.size := by omega); (try have hzd : wa.heap.size < w1.heap.size := by omega); (try replace hR := (hb1.block w.heap.size (by first | exact lt_heap hR | (have := lt_heap hR; simp; omega))).trans (by first | with_reducible exact hR | with_reducible exact laid_old hR)); replace hB := below_on (w := w) ((by repeat (first | with_reducible exact hB | with_reducible exact Below.refl _ _ | with_reducible refine below_al ?_ _ | with_reducible refine below_st ?_ (by first | exact Nat.le_refl _ | exact Nat.le_add_right _ _ | (simp; omega)) _))) hb1; clear hb1) | (go_at_call 72; refine (formed_any 9 s m a b _).mono ?_; rintro e w1 ⟨rfl, hb1⟩; obtain ⟨hc1, hf1⟩ := bcell hb1; have hz1 := hb1.size; (try simp only [World.size_alloc, World.size_setCell] at hz1); (try have hza : w.heap.size < w1.heap.size := by omega); (try have hzb : w.heap.size + 1 < w1.heap.size := by omega); (try have hzc : w.heap.size + 1 + 1 < w1.heap.size := by omega); (try have hzd : wa.heap.size < w1.heap.size := by omega); (try replace hR := (hb1.block w.heap.size (by first | exact lt_heap hR | (have := lt_heap hR; simp; omega))).trans (by first | with_reducible exact hR | with_reducible exact laid_old hR)); replace hB := below_on (w := w) ((by repeat (first | with_reducible exact hB | with_reducible exact Below.refl _ _ | with_reducible refine below_al ?_ _ | with_reducible refine below_st ?_ (by first | exact Nat.le_refl _ | exact Nat.le_add_right _ _ | (simp; omega)) _))) hb1; clear hb1) | (go_at_call 73; refine (bth_9 _ _ _ _ HN.out hN HP.out _ (by repeat (first | with_reducible exact hB | with_reducible exact Below.refl _ _ | with_reducible refine below_al ?_ _ | with_reducible refine below_st ?_ (by first | exact Nat.le_refl _ | exact Nat.le_add_right _ _ | (simp; omega)) _))).mono ?_; rintro e w1 ⟨rfl, hb1⟩; obtain ⟨hc1, hf1⟩ := bcell hb1; have hz1 := hb1.size; (try simp only [World.size_alloc, World.size_setCell] at hz1); (try have hza : w.heap.size < w1.heap.size := by omega); (try have hzb : w.heap.size + 1 < w1.heap.size := by omega); (try have hzc : w.heap.size + 1 + 1 < w1.heap.size := by omega); (try have hzd : wa.heap.size < w1.heap.size := by omega); (try replace hR := (hb1.block w.heap.size (by first | exact lt_heap hR | (have := lt_heap hR; simp; omega))).trans (by first | with_reducible exact hR | with_reducible exact laid_old hR)); replace hB := below_on (w := w) ((by repeat (first | with_reducible exact hB | with_reducible exact Below.refl _ _ | with_reducible refine below_al ?_ _ | with_reducible refine below_st ?_ (by first | exact Nat.le_refl _ | exact Nat.le_add_right _ _ | (simp; omega)) _))) hb1; clear hb1) | (go_at_call 74; refine (con_9 _ _ _ _ hS HN.out hN HP.out _ (by repeat (first | with_reducible exact hB | with_reducible exact Below.refl _ _ | with_reducible refine below_al ?_ _ | with_reducible refine below_st ?_ (by first | exact Nat.le_refl _ | exact Nat.le_add_right _ _ | (simp; omega)) _))).mono ?_; rintro e w1 ⟨rfl, hb1⟩; obtain ⟨hc1, hf1⟩ := bcell hb1; have hz1 := hb1.size; (try simp only [World.size_alloc, World.size_setCell] at hz1); (try have hza : w.heap.size < w1.heap.size := by omega); (try have hzb : w.heap.size + 1 < w1.heap.size := by omega); (try have hzc : w.heap.size + 1 + 1 < w1.heap.size := by omega); (try have hzd : wa.heap.size < w1.heap.size := by omega); (try replace hR := (hb1.block w.heap.size (by first | exact lt_heap hR | (have := lt_heap hR; simp; omega))).trans (by first | with_reducible exact hR | with_reducible exact laid_old hR)); replace hB := below_on (w := w) ((by repeat (first | with_reducible exact hB | with_reducible exact Below.refl _ _ | with_reducible refine below_al ?_ _ | with_reducible refine below_st ?_ (by first | exact Nat.le_refl _ | exact Nat.le_add_right _ _ | (simp; omega)) _))) hb1; clear hb1))
  all_goals go_ret
  · exact ⟨by rw [ck_mal rfl (notT (by assumption))]; rfl, (by repeat (first | with_reducible exact hB | with_reducible exact Below.refl _ _ | with_reducible refine below_al ?_ _ | with_reducible refine below_st ?_ (by first | exact Nat.le_refl _ | exact Nat.le_add_right _ _ | (simp; omega)) _))⟩
  · exact ⟨by rw [ck_ix (by omega) rfl (notF (by assumption)), ix_bad (bneT (by with_reducible assumption))]; rfl, (by repeat (first | with_reducible exact hB | with_reducible exact Below.refl _ _ | with_reducible refine below_al ?_ _ | with_reducible refine below_st ?_ (by first | exact Nat.le_refl _ | exact Nat.le_add_right _ _ | (simp; omega)) _))⟩
  · exact ⟨by rw [ck_ix (by omega) rfl (notF (by assumption)), ix_ok (bneF (by with_reducible assumption)), txm (by omega)]; rfl, (by repeat (first | with_reducible exact hB | with_reducible exact Below.refl _ _ | with_reducible refine below_al ?_ _ | with_reducible refine below_st ?_ (by first | exact Nat.le_refl _ | exact Nat.le_add_right _ _ | (simp; omega)) _))⟩

set_option maxRecDepth 100000 in
set_option maxHeartbeats 1000000 in
theorem rck_10 {w0 : World} {A : Option Addr} {n c : Nat} {L : List Cn} (s : ByteArray) (m a b : Int) (hS : Short L) (hn : L.length = n) (hN : n ≤ 100000) (hp : Pool w0 w0.heap.size A L) (w : World) (hb : Below w0.heap.size w0 w) :
    Calls Tryz.prog 62 #[.slice A n c, .agg #[.int .i64 10, .string s, .int .i64 m, .int .i64 a, .int .i64 b]] w fun e w' => e = .returned (.int .i64 (ckE L 10 s m a b)) ∧ Below w.heap.size w w' := by
  have HP := Lib.hid (hp.up hb)
  have HN := Lib.hid hn
  clear hp hb hn
  have hB : Below w.heap.size w w := Below.refl _ _
  have hk : knB 10 = true := rfl
  go_enter Tryz.func62, Tryz.ntmps62
  go_wp2_with (first | (go_at_call 71; refine (known_any _ _).mono ?_; rintro e w1 ⟨rfl, hb1⟩; obtain ⟨hc1, hf1⟩ := bcell hb1; have hz1 := hb1.size; (try simp only [World.size_alloc, World.size_setCell] at hz1); (try have hza : w.heap.size < w1.heap.size := by omega); (try have hzb : w.heap.size + 1 < w1.heap.size := by omega); (try have hzc : w.heap.size + 1 + 1 < w1.heap.size := by omega); (try have hzd : wa.heap.size < w1.heap.size := by omega); (try replace hR := (hb1.block w.heap.size (by first | exact lt_heap hR | (have := lt_heap hR; simp; omega))).trans (by first | with_reducible exact hR | with_reducible exact laid_old hR)); replace hB := below_on (w := w) ((by repeat (first | with_reducible exact hB | with_reducible exact Below.refl _ _ | with_reducible refine below_al ?_ _ | with_reducible refine below_st ?_ (by first | exact Nat.le_refl _ | exact Nat.le_add_right _ _ | (simp; omega)) _))) hb1; clear hb1) | (go_at_call 72; refine (formed_any 10 s m a b _).mono ?_; rintro e w1 ⟨rfl, hb1⟩; obtain ⟨hc1, hf1⟩ := bcell hb1; have hz1 := hb1.size; (try simp only [World.size_alloc, World.size_setCell] at hz1); (try have hza : w.heap.size < w1.heap.size := by omega); (try have hzb : w.heap.size + 1 < w1.heap.size := by omega); (try have hzc : w.heap.size + 1 + 1 < w1.heap.size := by omega); (try have hzd : wa.heap.size < w1.heap.size := by omega); (try replace hR := (hb1.block w.heap.size (by first | exact lt_heap hR | (have := lt_heap hR; simp; omega))).trans (by first | with_reducible exact hR | with_reducible exact laid_old hR)); replace hB := below_on (w := w) ((by repeat (first | with_reducible exact hB | with_reducible exact Below.refl _ _ | with_reducible refine below_al ?_ _ | with_reducible refine below_st ?_ (by first | exact Nat.le_refl _ | exact Nat.le_add_right _ _ | (simp; omega)) _))) hb1; clear hb1) | (go_at_call 73; refine (bth_10 _ _ _ _ HN.out hN HP.out _ (by repeat (first | with_reducible exact hB | with_reducible exact Below.refl _ _ | with_reducible refine below_al ?_ _ | with_reducible refine below_st ?_ (by first | exact Nat.le_refl _ | exact Nat.le_add_right _ _ | (simp; omega)) _))).mono ?_; rintro e w1 ⟨rfl, hb1⟩; obtain ⟨hc1, hf1⟩ := bcell hb1; have hz1 := hb1.size; (try simp only [World.size_alloc, World.size_setCell] at hz1); (try have hza : w.heap.size < w1.heap.size := by omega); (try have hzb : w.heap.size + 1 < w1.heap.size := by omega); (try have hzc : w.heap.size + 1 + 1 < w1.heap.size := by omega); (try have hzd : wa.heap.size < w1.heap.size := by omega); (try replace hR := (hb1.block w.heap.size (by first | exact lt_heap hR | (have := lt_heap hR; simp; omega))).trans (by first | with_reducible exact hR | with_reducible exact laid_old hR)); replace hB := below_on (w := w) ((by repeat (first | with_reducible exact hB | with_reducible exact Below.refl _ _ | with_reducible refine below_al ?_ _ | with_reducible refine below_st ?_ (by first | exact Nat.le_refl _ | exact Nat.le_add_right _ _ | (simp; omega)) _))) hb1; clear hb1) | (go_at_call 74; refine (con_10 _ _ _ _ hS HN.out hN HP.out _ (by repeat (first | with_reducible exact hB | with_reducible exact Below.refl _ _ | with_reducible refine below_al ?_ _ | with_reducible refine below_st ?_ (by first | exact Nat.le_refl _ | exact Nat.le_add_right _ _ | (simp; omega)) _))).mono ?_; rintro e w1 ⟨rfl, hb1⟩; obtain ⟨hc1, hf1⟩ := bcell hb1; have hz1 := hb1.size; (try simp only [World.size_alloc, World.size_setCell] at hz1); (try have hza : w.heap.size < w1.heap.size := by omega); (try have hzb : w.heap.size + 1 < w1.heap.size := by omega); (try have hzc : w.heap.size + 1 + 1 < w1.heap.size := by omega); (try have hzd : wa.heap.size < w1.heap.size := by omega); (try replace hR := (hb1.block w.heap.size (by first | exact lt_heap hR | (have := lt_heap hR; simp; omega))).trans (by first | with_reducible exact hR | with_reducible exact laid_old hR)); replace hB := below_on (w := w) ((by repeat (first | with_reducible exact hB | with_reducible exact Below.refl _ _ | with_reducible refine below_al ?_ _ | with_reducible refine below_st ?_ (by first | exact Nat.le_refl _ | exact Nat.le_add_right _ _ | (simp; omega)) _))) hb1; clear hb1))
  all_goals go_ret
  · exact ⟨by rw [ck_mal rfl (notT (by assumption))]; rfl, (by repeat (first | with_reducible exact hB | with_reducible exact Below.refl _ _ | with_reducible refine below_al ?_ _ | with_reducible refine below_st ?_ (by first | exact Nat.le_refl _ | exact Nat.le_add_right _ _ | (simp; omega)) _))⟩
  · exact ⟨by rw [ck_ix (by omega) rfl (notF (by assumption)), ix_bad (bneT (by with_reducible assumption))]; rfl, (by repeat (first | with_reducible exact hB | with_reducible exact Below.refl _ _ | with_reducible refine below_al ?_ _ | with_reducible refine below_st ?_ (by first | exact Nat.le_refl _ | exact Nat.le_add_right _ _ | (simp; omega)) _))⟩
  · exact ⟨by rw [ck_ix (by omega) rfl (notF (by assumption)), ix_ok (bneF (by with_reducible assumption)), txm (by omega)]; rfl, (by repeat (first | with_reducible exact hB | with_reducible exact Below.refl _ _ | with_reducible refine below_al ?_ _ | with_reducible refine below_st ?_ (by first | exact Nat.le_refl _ | exact Nat.le_add_right _ _ | (simp; omega)) _))⟩

set_option maxRecDepth 100000 in
set_option maxHeartbeats 1000000 in
theorem rck_11 {w0 : World} {A : Option Addr} {n c : Nat} {L : List Cn} (s : ByteArray) (m a b : Int) (hS : Short L) (hn : L.length = n) (hN : n ≤ 100000) (hp : Pool w0 w0.heap.size A L) (w : World) (hb : Below w0.heap.size w0 w) :
    Calls Tryz.prog 62 #[.slice A n c, .agg #[.int .i64 11, .string s, .int .i64 m, .int .i64 a, .int .i64 b]] w fun e w' => e = .returned (.int .i64 (ckE L 11 s m a b)) ∧ Below w.heap.size w w' := by
  have HP := Lib.hid (hp.up hb)
  have HN := Lib.hid hn
  clear hp hb hn
  have hB : Below w.heap.size w w := Below.refl _ _
  have hk : knB 11 = true := rfl
  go_enter Tryz.func62, Tryz.ntmps62
  go_wp2_with (first | (go_at_call 71; refine (known_any _ _).mono ?_; rintro e w1 ⟨rfl, hb1⟩; obtain ⟨hc1, hf1⟩ := bcell hb1; have hz1 := hb1.size; (try simp only [World.size_alloc, World.size_setCell] at hz1); (try have hza : w.heap.size < w1.heap.size := by omega); (try have hzb : w.heap.size + 1 < w1.heap.size := by omega); (try have hzc : w.heap.size + 1 + 1 < w1.heap.size := by omega); (try have hzd : wa.heap.size < w1.heap.size := by omega); (try replace hR := (hb1.block w.heap.size (by first | exact lt_heap hR | (have := lt_heap hR; simp; omega))).trans (by first | with_reducible exact hR | with_reducible exact laid_old hR)); replace hB := below_on (w := w) ((by repeat (first | with_reducible exact hB | with_reducible exact Below.refl _ _ | with_reducible refine below_al ?_ _ | with_reducible refine below_st ?_ (by first | exact Nat.le_refl _ | exact Nat.le_add_right _ _ | (simp; omega)) _))) hb1; clear hb1) | (go_at_call 72; refine (formed_any 11 s m a b _).mono ?_; rintro e w1 ⟨rfl, hb1⟩; obtain ⟨hc1, hf1⟩ := bcell hb1; have hz1 := hb1.size; (try simp only [World.size_alloc, World.size_setCell] at hz1); (try have hza : w.heap.size < w1.heap.size := by omega); (try have hzb : w.heap.size + 1 < w1.heap.size := by omega); (try have hzc : w.heap.size + 1 + 1 < w1.heap.size := by omega); (try have hzd : wa.heap.size < w1.heap.size := by omega); (try replace hR := (hb1.block w.heap.size (by first | exact lt_heap hR | (have := lt_heap hR; simp; omega))).trans (by first | with_reducible exact hR | with_reducible exact laid_old hR)); replace hB := below_on (w := w) ((by repeat (first | with_reducible exact hB | with_reducible exact Below.refl _ _ | with_reducible refine below_al ?_ _ | with_reducible refine below_st ?_ (by first | exact Nat.le_refl _ | exact Nat.le_add_right _ _ | (simp; omega)) _))) hb1; clear hb1) | (go_at_call 73; refine (bth_11 _ _ _ _ HN.out hN HP.out _ (by repeat (first | with_reducible exact hB | with_reducible exact Below.refl _ _ | with_reducible refine below_al ?_ _ | with_reducible refine below_st ?_ (by first | exact Nat.le_refl _ | exact Nat.le_add_right _ _ | (simp; omega)) _))).mono ?_; rintro e w1 ⟨rfl, hb1⟩; obtain ⟨hc1, hf1⟩ := bcell hb1; have hz1 := hb1.size; (try simp only [World.size_alloc, World.size_setCell] at hz1); (try have hza : w.heap.size < w1.heap.size := by omega); (try have hzb : w.heap.size + 1 < w1.heap.size := by omega); (try have hzc : w.heap.size + 1 + 1 < w1.heap.size := by omega); (try have hzd : wa.heap.size < w1.heap.size := by omega); (try replace hR := (hb1.block w.heap.size (by first | exact lt_heap hR | (have := lt_heap hR; simp; omega))).trans (by first | with_reducible exact hR | with_reducible exact laid_old hR)); replace hB := below_on (w := w) ((by repeat (first | with_reducible exact hB | with_reducible exact Below.refl _ _ | with_reducible refine below_al ?_ _ | with_reducible refine below_st ?_ (by first | exact Nat.le_refl _ | exact Nat.le_add_right _ _ | (simp; omega)) _))) hb1; clear hb1) | (go_at_call 74; refine (con_11 _ _ _ _ hS HN.out hN HP.out _ (by repeat (first | with_reducible exact hB | with_reducible exact Below.refl _ _ | with_reducible refine below_al ?_ _ | with_reducible refine below_st ?_ (by first | exact Nat.le_refl _ | exact Nat.le_add_right _ _ | (simp; omega)) _))).mono ?_; rintro e w1 ⟨rfl, hb1⟩; obtain ⟨hc1, hf1⟩ := bcell hb1; have hz1 := hb1.size; (try simp only [World.size_alloc, World.size_setCell] at hz1); (try have hza : w.heap.size < w1.heap.size := by omega); (try have hzb : w.heap.size + 1 < w1.heap.size := by omega); (try have hzc : w.heap.size + 1 + 1 < w1.heap.size := by omega); (try have hzd : wa.heap.size < w1.heap.size := by omega); (try replace hR := (hb1.block w.heap.size (by first | exact lt_heap hR | (have := lt_heap hR; simp; omega))).trans (by first | with_reducible exact hR | with_reducible exact laid_old hR)); replace hB := below_on (w := w) ((by repeat (first | with_reducible exact hB | with_reducible exact Below.refl _ _ | with_reducible refine below_al ?_ _ | with_reducible refine below_st ?_ (by first | exact Nat.le_refl _ | exact Nat.le_add_right _ _ | (simp; omega)) _))) hb1; clear hb1))
  all_goals go_ret
  · exact ⟨by rw [ck_mal rfl (notT (by assumption))]; rfl, (by repeat (first | with_reducible exact hB | with_reducible exact Below.refl _ _ | with_reducible refine below_al ?_ _ | with_reducible refine below_st ?_ (by first | exact Nat.le_refl _ | exact Nat.le_add_right _ _ | (simp; omega)) _))⟩
  · exact ⟨by rw [ck_ix (by omega) rfl (notF (by assumption)), ix_bad (bneT (by with_reducible assumption))]; rfl, (by repeat (first | with_reducible exact hB | with_reducible exact Below.refl _ _ | with_reducible refine below_al ?_ _ | with_reducible refine below_st ?_ (by first | exact Nat.le_refl _ | exact Nat.le_add_right _ _ | (simp; omega)) _))⟩
  · exact ⟨by rw [ck_ix (by omega) rfl (notF (by assumption)), ix_ok (bneF (by with_reducible assumption)), txm (by omega)]; rfl, (by repeat (first | with_reducible exact hB | with_reducible exact Below.refl _ _ | with_reducible refine below_al ?_ _ | with_reducible refine below_st ?_ (by first | exact Nat.le_refl _ | exact Nat.le_add_right _ _ | (simp; omega)) _))⟩

set_option maxRecDepth 100000 in
set_option maxHeartbeats 1000000 in
theorem rck_u {w0 : World} {A : Option Addr} {n c : Nat} {L : List Cn} (t : Int) (hk : knB t = false) (s : ByteArray) (m a b : Int) (hS : Short L) (hn : L.length = n) (hN : n ≤ 100000) (hp : Pool w0 w0.heap.size A L) (w : World) (hb : Below w0.heap.size w0 w) :
    Calls Tryz.prog 62 #[.slice A n c, .agg #[.int .i64 t, .string s, .int .i64 m, .int .i64 a, .int .i64 b]] w fun e w' => e = .returned (.int .i64 (ckE L t s m a b)) ∧ Below w.heap.size w w' := by
  have HP := Lib.hid (hp.up hb)
  have HN := Lib.hid hn
  clear hp hb hn
  have hB : Below w.heap.size w w := Below.refl _ _
  go_enter Tryz.func62, Tryz.ntmps62
  go_wp2_with (go_at_call 71; refine (known_any _ _).mono ?_; rintro e w1 ⟨rfl, hb1⟩; obtain ⟨hc1, hf1⟩ := bcell hb1; have hz1 := hb1.size; (try simp only [World.size_alloc, World.size_setCell] at hz1); (try have hza : w.heap.size < w1.heap.size := by omega); (try have hzb : w.heap.size + 1 < w1.heap.size := by omega); (try have hzc : w.heap.size + 1 + 1 < w1.heap.size := by omega); (try have hzd : wa.heap.size < w1.heap.size := by omega); (try replace hR := (hb1.block w.heap.size (by first | exact lt_heap hR | (have := lt_heap hR; simp; omega))).trans (by first | with_reducible exact hR | with_reducible exact laid_old hR)); replace hB := below_on (w := w) ((by repeat (first | with_reducible exact hB | with_reducible exact Below.refl _ _ | with_reducible refine below_al ?_ _ | with_reducible refine below_st ?_ (by first | exact Nat.le_refl _ | exact Nat.le_add_right _ _ | (simp; omega)) _))) hb1; clear hb1)
  go_ret
  exact ⟨by rw [ck_un hk]; rfl, (by repeat (first | with_reducible exact hB | with_reducible exact Below.refl _ _ | with_reducible refine below_al ?_ _ | with_reducible refine below_st ?_ (by first | exact Nat.le_refl _ | exact Nat.le_add_right _ _ | (simp; omega)) _))⟩

set_option maxRecDepth 100000 in
set_option maxHeartbeats 1000000 in
theorem rck_any {w0 : World} {A : Option Addr} {n c : Nat} {L : List Cn} (t : Int) (s : ByteArray) (m a b : Int) (hS : Short L) (hn : L.length = n) (hN : n ≤ 100000) (hp : Pool w0 w0.heap.size A L) (w : World) (hb : Below w0.heap.size w0 w) :
    Calls Tryz.prog 62 #[.slice A n c, .agg #[.int .i64 t, .string s, .int .i64 m, .int .i64 a, .int .i64 b]] w fun e w' => e = .returned (.int .i64 (ckE L t s m a b)) ∧ Below w.heap.size w w' := by
  cases hk : knB t with
  | false => exact rck_u t hk s m a b hS hn hN hp w hb
  | true =>
    rcases kn_cases hk with rfl | rfl | rfl | rfl | rfl | rfl | rfl | rfl | rfl
    · exact rck_1 s m a b hS hn hN hp w hb
    · exact rck_3 s m a b hS hn hN hp w hb
    · exact rck_5 s m a b hS hn hN hp w hb
    · exact rck_7 s m a b hS hn hN hp w hb
    · exact rck_8 s m a b hS hn hN hp w hb
    · exact rck_12 s m a b hS hn hN hp w hb
    · exact rck_9 s m a b hS hn hN hp w hb
    · exact rck_10 s m a b hS hn hN hp w hb
    · exact rck_11 s m a b hS hn hN hp w hb

end Go.Proofs.YthfegbhbokhlkaaGreatDoor
