/- Layer 8: the reference's num and put. -/
import Derived.Test.YtpghkdmljanncaaInEnk
namespace Go.Proofs.Ytpghkdmljanncaa
open Go.ChangeShapes Go.WideShapes Go.ChangeAt Go.RowKit Go.PlainAid
set_option linter.unusedSimpArgs false
set_option linter.unusedVariables false

theorem num_any (n z : Int) (w : World) : Calls Try.prog 91 #[.int .i64 n, .int .i64 z] w fun e w' => e = .returned (.string (putB n z)) ∧ Below w.heap.size w w' := by
  have hB : Below w.heap.size w w := Below.refl _ _
  go_enter Try.func91, Try.ntmps91
  go_wp2_with (go_at_call 102; refine (rput_any _ _ _).mono ?_; rintro e w1 ⟨rfl, hb1⟩; obtain ⟨hc1, hf1⟩ := bcell hb1; have hz1 := hb1.size; (try simp only [World.size_alloc, World.size_setCell] at hz1); (try have hza : w.heap.size < w1.heap.size := by omega); (try have hzb : w.heap.size + 1 < w1.heap.size := by omega); (try have hzc : w.heap.size + 1 + 1 < w1.heap.size := by omega); (try have hzd : wa.heap.size < w1.heap.size := by omega); (try replace hR := (hb1.block w.heap.size (by first | exact lt_heap hR | (have := lt_heap hR; simp; omega))).trans (by first | with_reducible exact hR | with_reducible exact laid_old hR)); replace hB := below_on (w := w) ((by repeat (first | with_reducible exact hB | with_reducible exact Below.refl _ _ | with_reducible refine below_al ?_ _ | with_reducible refine below_st ?_ (by first | exact Nat.le_refl _ | exact Nat.le_add_right _ _ | (simp; omega)) _))) hb1; clear hb1)
  go_ret
  exact ⟨rfl, (by repeat (first | with_reducible exact hB | with_reducible exact Below.refl _ _ | with_reducible refine below_al ?_ _ | with_reducible refine below_st ?_ (by first | exact Nat.le_refl _ | exact Nat.le_add_right _ _ | (simp; omega)) _))⟩
theorem fit2 {x y : ByteArray} {a b : Nat} (hx : x.size ≤ a) (hy : y.size ≤ b) (h : a + b ≤ 1000000) : ¬ 9223372036854775807 < x.size + y.size := by omega

set_option maxRecDepth 100000 in
set_option maxHeartbeats 2000000 in
theorem rput8_0 (i : In) (P : List Int) (A : Option Addr) (m c : Nat) (w : World) (hk : kindV i.op = 0) (hP : Row w w.heap.size A P) (hm : P.length = m) (hok : i.ok w w.heap.size) (hT : TgOk P i) (hk7 : kindV i.op = 7 → i.tn = i.kn) (hts : i.tn ≤ 100) :
    Calls Try.prog 63 #[(Value.agg #[Value.int IntKind.i64 (In.op i), Value.int IntKind.i64 (In.a i), Value.int IntKind.i64 (In.b i), Value.int IntKind.i64 (In.t i), Value.slice (In.kA i) (In.kn i) (In.kc i), Value.slice (In.tA i) (In.tn i) (In.tc i), Value.string (In.r1 i), Value.string (In.r2 i), Value.string (In.r3 i), Value.string (In.s i)]), .slice A m c] w fun e w' => e = .returned (.string (opB P i)) ∧ Below w.heap.size w w' := by
  have hS : opB P i = opK 0 P i := by unfold opB; rw [hk]
  rw [hS]
  have HK := Lib.hid hk
  have hB : Below w.heap.size w w := Below.refl _ _
  have s1 := putB_size i.op 1
  have s2 := putB_size i.a 1
  have s3 := putB_size i.a 2
  have s4 := putB_size i.b 1
  have s5 := putB_size i.a 4
  have s6 := putB_size i.tn 2
  have s7 := putB_size i.kn 2
  clear s1 s2 s3 s4 s5 s6 s7 hS hk hT
  have HOK := Lib.hid hok
  have H7 := Lib.hid hk7
  clear hok hk7
  go_enter Try.func63, Try.ntmps63
  go_upto_region 1 with fail
  have R := World.alloc_heap_new w (.cells #[.int .i64 i.op, .int .i64 i.a, .int .i64 i.b, .int .i64 i.t, .slice i.kA i.kn i.kc, .slice i.tA i.tn i.tc, .string i.r1, .string i.r2, .string i.r3, .string i.s] 26)
  have hA := below_al (Below.refl w.heap.size w) (.cells #[.int .i64 i.op, .int .i64 i.a, .int .i64 i.b, .int .i64 i.t, .slice i.kA i.kn i.kc, .slice i.tA i.tn i.tc, .string i.r1, .string i.r2, .string i.r3, .string i.s] 26)
  replace hB := below_al hB (.cells #[.int .i64 i.op, .int .i64 i.a, .int .i64 i.b, .int .i64 i.t, .slice i.kA i.kn i.kc, .slice i.tA i.tn i.tc, .string i.r1, .string i.r2, .string i.r3, .string i.s] 26)
  generalize w.alloc (.cells #[.int .i64 i.op, .int .i64 i.a, .int .i64 i.b, .int .i64 i.t, .slice i.kA i.kn i.kc, .slice i.tA i.tn i.tc, .string i.r1, .string i.r2, .string i.r3, .string i.s] 26) = W1 at R hB hA ⊢
  obtain ⟨r0, r1, r2, r3, r4, r5, r6, r7, r8, r9⟩ := ten_cells R
  have hy := lt_heap R
  replace R := Lib.hid R
  go_wp2_with (first | (go_at_call 51; refine (rkind_any _ _).mono ?_; rintro e w' ⟨rfl, rfl⟩; rw [HK.out]) | (go_at_call 91; refine (num_any _ _ _).mono ?_; rintro e w2 ⟨rfl, hb1⟩; replace R := Lib.hid ((hb1.block _ hy).trans R.out); obtain ⟨r0, r1, r2, r3, r4, r5, r6, r7, r8, r9⟩ := ten_cells R.out; replace hy := Nat.lt_of_lt_of_le hy hb1.size; replace hB := below_on (w := w) hB hb1; clear hb1))
  go_ret
  exact ⟨rfl, hB⟩

set_option maxRecDepth 100000 in
set_option maxHeartbeats 2000000 in
theorem rput8_1 (i : In) (P : List Int) (A : Option Addr) (m c : Nat) (w : World) (hk : kindV i.op = 1) (hP : Row w w.heap.size A P) (hm : P.length = m) (hok : i.ok w w.heap.size) (hT : TgOk P i) (hk7 : kindV i.op = 7 → i.tn = i.kn) (hts : i.tn ≤ 100) :
    Calls Try.prog 63 #[(Value.agg #[Value.int IntKind.i64 (In.op i), Value.int IntKind.i64 (In.a i), Value.int IntKind.i64 (In.b i), Value.int IntKind.i64 (In.t i), Value.slice (In.kA i) (In.kn i) (In.kc i), Value.slice (In.tA i) (In.tn i) (In.tc i), Value.string (In.r1 i), Value.string (In.r2 i), Value.string (In.r3 i), Value.string (In.s i)]), .slice A m c] w fun e w' => e = .returned (.string (opB P i)) ∧ Below w.heap.size w w' := by
  have hS : opB P i = opK 1 P i := by unfold opB; rw [hk]
  rw [hS]
  have HK := Lib.hid hk
  have hB : Below w.heap.size w w := Below.refl _ _
  have s1 := putB_size i.op 1
  have s2 := putB_size i.a 1
  have s3 := putB_size i.a 2
  have s4 := putB_size i.b 1
  have s5 := putB_size i.a 4
  have s6 := putB_size i.tn 2
  have s7 := putB_size i.kn 2
  have f0 : ¬ 9223372036854775807 < (putB i.op 1).size + (putB i.a 1).size := by omega
  clear s1 s2 s3 s4 s5 s6 s7 hS hk hT
  have HOK := Lib.hid hok
  have H7 := Lib.hid hk7
  clear hok hk7
  go_enter Try.func63, Try.ntmps63
  go_upto_region 1 with fail
  have R := World.alloc_heap_new w (.cells #[.int .i64 i.op, .int .i64 i.a, .int .i64 i.b, .int .i64 i.t, .slice i.kA i.kn i.kc, .slice i.tA i.tn i.tc, .string i.r1, .string i.r2, .string i.r3, .string i.s] 26)
  have hA := below_al (Below.refl w.heap.size w) (.cells #[.int .i64 i.op, .int .i64 i.a, .int .i64 i.b, .int .i64 i.t, .slice i.kA i.kn i.kc, .slice i.tA i.tn i.tc, .string i.r1, .string i.r2, .string i.r3, .string i.s] 26)
  replace hB := below_al hB (.cells #[.int .i64 i.op, .int .i64 i.a, .int .i64 i.b, .int .i64 i.t, .slice i.kA i.kn i.kc, .slice i.tA i.tn i.tc, .string i.r1, .string i.r2, .string i.r3, .string i.s] 26)
  generalize w.alloc (.cells #[.int .i64 i.op, .int .i64 i.a, .int .i64 i.b, .int .i64 i.t, .slice i.kA i.kn i.kc, .slice i.tA i.tn i.tc, .string i.r1, .string i.r2, .string i.r3, .string i.s] 26) = W1 at R hB hA ⊢
  obtain ⟨r0, r1, r2, r3, r4, r5, r6, r7, r8, r9⟩ := ten_cells R
  have hy := lt_heap R
  replace R := Lib.hid R
  go_wp2_with (first | (go_at_call 51; refine (rkind_any _ _).mono ?_; rintro e w' ⟨rfl, rfl⟩; rw [HK.out]) | (go_at_call 91; refine (num_any _ _ _).mono ?_; rintro e w2 ⟨rfl, hb1⟩; replace R := Lib.hid ((hb1.block _ hy).trans R.out); obtain ⟨r0, r1, r2, r3, r4, r5, r6, r7, r8, r9⟩ := ten_cells R.out; replace hy := Nat.lt_of_lt_of_le hy hb1.size; replace hB := below_on (w := w) hB hb1; clear hb1))
  go_ret
  exact ⟨rfl, hB⟩

set_option maxRecDepth 100000 in
set_option maxHeartbeats 2000000 in
theorem rput8_2 (i : In) (P : List Int) (A : Option Addr) (m c : Nat) (w : World) (hk : kindV i.op = 2) (hP : Row w w.heap.size A P) (hm : P.length = m) (hok : i.ok w w.heap.size) (hT : TgOk P i) (hk7 : kindV i.op = 7 → i.tn = i.kn) (hts : i.tn ≤ 100) :
    Calls Try.prog 63 #[(Value.agg #[Value.int IntKind.i64 (In.op i), Value.int IntKind.i64 (In.a i), Value.int IntKind.i64 (In.b i), Value.int IntKind.i64 (In.t i), Value.slice (In.kA i) (In.kn i) (In.kc i), Value.slice (In.tA i) (In.tn i) (In.tc i), Value.string (In.r1 i), Value.string (In.r2 i), Value.string (In.r3 i), Value.string (In.s i)]), .slice A m c] w fun e w' => e = .returned (.string (opB P i)) ∧ Below w.heap.size w w' := by
  have hS : opB P i = opK 2 P i := by unfold opB; rw [hk]
  rw [hS]
  have HK := Lib.hid hk
  have hB : Below w.heap.size w w := Below.refl _ _
  have s1 := putB_size i.op 1
  have s2 := putB_size i.a 1
  have s3 := putB_size i.a 2
  have s4 := putB_size i.b 1
  have s5 := putB_size i.a 4
  have s6 := putB_size i.tn 2
  have s7 := putB_size i.kn 2
  have f0 : ¬ 9223372036854775807 < (putB i.op 1).size + (putB i.a 2).size := by omega
  clear s1 s2 s3 s4 s5 s6 s7 hS hk hT
  have HOK := Lib.hid hok
  have H7 := Lib.hid hk7
  clear hok hk7
  go_enter Try.func63, Try.ntmps63
  go_upto_region 1 with fail
  have R := World.alloc_heap_new w (.cells #[.int .i64 i.op, .int .i64 i.a, .int .i64 i.b, .int .i64 i.t, .slice i.kA i.kn i.kc, .slice i.tA i.tn i.tc, .string i.r1, .string i.r2, .string i.r3, .string i.s] 26)
  have hA := below_al (Below.refl w.heap.size w) (.cells #[.int .i64 i.op, .int .i64 i.a, .int .i64 i.b, .int .i64 i.t, .slice i.kA i.kn i.kc, .slice i.tA i.tn i.tc, .string i.r1, .string i.r2, .string i.r3, .string i.s] 26)
  replace hB := below_al hB (.cells #[.int .i64 i.op, .int .i64 i.a, .int .i64 i.b, .int .i64 i.t, .slice i.kA i.kn i.kc, .slice i.tA i.tn i.tc, .string i.r1, .string i.r2, .string i.r3, .string i.s] 26)
  generalize w.alloc (.cells #[.int .i64 i.op, .int .i64 i.a, .int .i64 i.b, .int .i64 i.t, .slice i.kA i.kn i.kc, .slice i.tA i.tn i.tc, .string i.r1, .string i.r2, .string i.r3, .string i.s] 26) = W1 at R hB hA ⊢
  obtain ⟨r0, r1, r2, r3, r4, r5, r6, r7, r8, r9⟩ := ten_cells R
  have hy := lt_heap R
  replace R := Lib.hid R
  go_wp2_with (first | (go_at_call 51; refine (rkind_any _ _).mono ?_; rintro e w' ⟨rfl, rfl⟩; rw [HK.out]) | (go_at_call 91; refine (num_any _ _ _).mono ?_; rintro e w2 ⟨rfl, hb1⟩; replace R := Lib.hid ((hb1.block _ hy).trans R.out); obtain ⟨r0, r1, r2, r3, r4, r5, r6, r7, r8, r9⟩ := ten_cells R.out; replace hy := Nat.lt_of_lt_of_le hy hb1.size; replace hB := below_on (w := w) hB hb1; clear hb1))
  go_ret
  exact ⟨rfl, hB⟩

set_option maxRecDepth 100000 in
set_option maxHeartbeats 2000000 in
theorem rput8_3 (i : In) (P : List Int) (A : Option Addr) (m c : Nat) (w : World) (hk : kindV i.op = 3) (hP : Row w w.heap.size A P) (hm : P.length = m) (hok : i.ok w w.heap.size) (hT : TgOk P i) (hk7 : kindV i.op = 7 → i.tn = i.kn) (hts : i.tn ≤ 100) :
    Calls Try.prog 63 #[(Value.agg #[Value.int IntKind.i64 (In.op i), Value.int IntKind.i64 (In.a i), Value.int IntKind.i64 (In.b i), Value.int IntKind.i64 (In.t i), Value.slice (In.kA i) (In.kn i) (In.kc i), Value.slice (In.tA i) (In.tn i) (In.tc i), Value.string (In.r1 i), Value.string (In.r2 i), Value.string (In.r3 i), Value.string (In.s i)]), .slice A m c] w fun e w' => e = .returned (.string (opB P i)) ∧ Below w.heap.size w w' := by
  have hS : opB P i = opK 3 P i := by unfold opB; rw [hk]
  rw [hS]
  have HK := Lib.hid hk
  have hB : Below w.heap.size w w := Below.refl _ _
  have s1 := putB_size i.op 1
  have s2 := putB_size i.a 1
  have s3 := putB_size i.a 2
  have s4 := putB_size i.b 1
  have s5 := putB_size i.a 4
  have s6 := putB_size i.tn 2
  have s7 := putB_size i.kn 2
  have HT := Lib.hid hT
  have htg := hT i.t (by rw [tg_kind (by omega)]; exact List.mem_cons_self)
  obtain ⟨g, o, rfl, hgB, hc⟩ := hP.at (by omega)
  have hcp := hc i.t.toNat (by omega)
  rw [show P.getD i.t.toNat 0 = plN P i.t from rfl] at hcp
  have ht0 : (0 : Int) ≤ i.t := htg.1
  have ht1 : i.t < (m : Int) := by omega
  obtain ⟨z, hz⟩ : ∃ z, plN P i.t = z := ⟨_, rfl⟩
  rw [hz] at hcp
  have HZ := Lib.hid hz
  have s8 := putB_size z 2
  clear hz htg
  have HC := Lib.hid hc
  clear hc
  have f0 : ¬ 9223372036854775807 < (putB i.op 1).size + (putB z 2).size := by omega
  clear s1 s2 s3 s4 s5 s6 s7 s8 hS hk hT
  have HOK := Lib.hid hok
  have H7 := Lib.hid hk7
  clear hok hk7
  go_enter Try.func63, Try.ntmps63
  go_upto_region 1 with fail
  have R := World.alloc_heap_new w (.cells #[.int .i64 i.op, .int .i64 i.a, .int .i64 i.b, .int .i64 i.t, .slice i.kA i.kn i.kc, .slice i.tA i.tn i.tc, .string i.r1, .string i.r2, .string i.r3, .string i.s] 26)
  have hA := below_al (Below.refl w.heap.size w) (.cells #[.int .i64 i.op, .int .i64 i.a, .int .i64 i.b, .int .i64 i.t, .slice i.kA i.kn i.kc, .slice i.tA i.tn i.tc, .string i.r1, .string i.r2, .string i.r3, .string i.s] 26)
  replace hB := below_al hB (.cells #[.int .i64 i.op, .int .i64 i.a, .int .i64 i.b, .int .i64 i.t, .slice i.kA i.kn i.kc, .slice i.tA i.tn i.tc, .string i.r1, .string i.r2, .string i.r3, .string i.s] 26)
  generalize w.alloc (.cells #[.int .i64 i.op, .int .i64 i.a, .int .i64 i.b, .int .i64 i.t, .slice i.kA i.kn i.kc, .slice i.tA i.tn i.tc, .string i.r1, .string i.r2, .string i.r3, .string i.s] 26) = W1 at R hB hA ⊢
  obtain ⟨r0, r1, r2, r3, r4, r5, r6, r7, r8, r9⟩ := ten_cells R
  have hy := lt_heap R
  replace R := Lib.hid R
  replace hcp := (hA.cell (p := ⟨g, _, none⟩) hgB).trans hcp
  go_wp2_with (first | (go_at_call 51; refine (rkind_any _ _).mono ?_; rintro e w' ⟨rfl, rfl⟩; rw [HK.out]) | (go_at_call 91; refine (num_any _ _ _).mono ?_; rintro e w2 ⟨rfl, hb1⟩; replace hcp := (hb1.cell (p := ⟨g, _, none⟩) (Nat.lt_of_lt_of_le hgB hB.size)).trans hcp; replace R := Lib.hid ((hb1.block _ hy).trans R.out); obtain ⟨r0, r1, r2, r3, r4, r5, r6, r7, r8, r9⟩ := ten_cells R.out; replace hy := Nat.lt_of_lt_of_le hy hb1.size; replace hB := below_on (w := w) hB hb1; clear hb1))
  have hz := HZ.out
  subst hz
  go_ret
  exact ⟨rfl, hB⟩

set_option maxRecDepth 100000 in
set_option maxHeartbeats 2000000 in
theorem rput8_4 (i : In) (P : List Int) (A : Option Addr) (m c : Nat) (w : World) (hk : kindV i.op = 4) (hP : Row w w.heap.size A P) (hm : P.length = m) (hok : i.ok w w.heap.size) (hT : TgOk P i) (hk7 : kindV i.op = 7 → i.tn = i.kn) (hts : i.tn ≤ 100) :
    Calls Try.prog 63 #[(Value.agg #[Value.int IntKind.i64 (In.op i), Value.int IntKind.i64 (In.a i), Value.int IntKind.i64 (In.b i), Value.int IntKind.i64 (In.t i), Value.slice (In.kA i) (In.kn i) (In.kc i), Value.slice (In.tA i) (In.tn i) (In.tc i), Value.string (In.r1 i), Value.string (In.r2 i), Value.string (In.r3 i), Value.string (In.s i)]), .slice A m c] w fun e w' => e = .returned (.string (opB P i)) ∧ Below w.heap.size w w' := by
  have hS : opB P i = opK 4 P i := by unfold opB; rw [hk]
  rw [hS]
  have HK := Lib.hid hk
  have hB : Below w.heap.size w w := Below.refl _ _
  have s1 := putB_size i.op 1
  have s2 := putB_size i.a 1
  have s3 := putB_size i.a 2
  have s4 := putB_size i.b 1
  have s5 := putB_size i.a 4
  have s6 := putB_size i.tn 2
  have s7 := putB_size i.kn 2
  have f0 : ¬ 9223372036854775807 < (putB i.op 1).size + (putB i.a 1).size := by omega
  clear s1 s2 s3 s4 s5 s6 s7 hS hk hT
  have HOK := Lib.hid hok
  have H7 := Lib.hid hk7
  clear hok hk7
  go_enter Try.func63, Try.ntmps63
  go_upto_region 1 with fail
  have R := World.alloc_heap_new w (.cells #[.int .i64 i.op, .int .i64 i.a, .int .i64 i.b, .int .i64 i.t, .slice i.kA i.kn i.kc, .slice i.tA i.tn i.tc, .string i.r1, .string i.r2, .string i.r3, .string i.s] 26)
  have hA := below_al (Below.refl w.heap.size w) (.cells #[.int .i64 i.op, .int .i64 i.a, .int .i64 i.b, .int .i64 i.t, .slice i.kA i.kn i.kc, .slice i.tA i.tn i.tc, .string i.r1, .string i.r2, .string i.r3, .string i.s] 26)
  replace hB := below_al hB (.cells #[.int .i64 i.op, .int .i64 i.a, .int .i64 i.b, .int .i64 i.t, .slice i.kA i.kn i.kc, .slice i.tA i.tn i.tc, .string i.r1, .string i.r2, .string i.r3, .string i.s] 26)
  generalize w.alloc (.cells #[.int .i64 i.op, .int .i64 i.a, .int .i64 i.b, .int .i64 i.t, .slice i.kA i.kn i.kc, .slice i.tA i.tn i.tc, .string i.r1, .string i.r2, .string i.r3, .string i.s] 26) = W1 at R hB hA ⊢
  obtain ⟨r0, r1, r2, r3, r4, r5, r6, r7, r8, r9⟩ := ten_cells R
  have hy := lt_heap R
  replace R := Lib.hid R
  go_wp2_with (first | (go_at_call 51; refine (rkind_any _ _).mono ?_; rintro e w' ⟨rfl, rfl⟩; rw [HK.out]) | (go_at_call 91; refine (num_any _ _ _).mono ?_; rintro e w2 ⟨rfl, hb1⟩; replace R := Lib.hid ((hb1.block _ hy).trans R.out); obtain ⟨r0, r1, r2, r3, r4, r5, r6, r7, r8, r9⟩ := ten_cells R.out; replace hy := Nat.lt_of_lt_of_le hy hb1.size; replace hB := below_on (w := w) hB hb1; clear hb1))
  go_ret
  exact ⟨rfl, hB⟩

set_option maxRecDepth 100000 in
set_option maxHeartbeats 2000000 in
theorem rput8_5 (i : In) (P : List Int) (A : Option Addr) (m c : Nat) (w : World) (hk : kindV i.op = 5) (hP : Row w w.heap.size A P) (hm : P.length = m) (hok : i.ok w w.heap.size) (hT : TgOk P i) (hk7 : kindV i.op = 7 → i.tn = i.kn) (hts : i.tn ≤ 100) :
    Calls Try.prog 63 #[(Value.agg #[Value.int IntKind.i64 (In.op i), Value.int IntKind.i64 (In.a i), Value.int IntKind.i64 (In.b i), Value.int IntKind.i64 (In.t i), Value.slice (In.kA i) (In.kn i) (In.kc i), Value.slice (In.tA i) (In.tn i) (In.tc i), Value.string (In.r1 i), Value.string (In.r2 i), Value.string (In.r3 i), Value.string (In.s i)]), .slice A m c] w fun e w' => e = .returned (.string (opB P i)) ∧ Below w.heap.size w w' := by
  have hS : opB P i = opK 5 P i := by unfold opB; rw [hk]
  rw [hS]
  have HK := Lib.hid hk
  have hB : Below w.heap.size w w := Below.refl _ _
  have s1 := putB_size i.op 1
  have s2 := putB_size i.a 1
  have s3 := putB_size i.a 2
  have s4 := putB_size i.b 1
  have s5 := putB_size i.a 4
  have s6 := putB_size i.tn 2
  have s7 := putB_size i.kn 2
  have f0 : ¬ 9223372036854775807 < (putB i.op 1).size + (putB i.a 1).size := by omega
  have f1 : ¬ 9223372036854775807 < (putB i.op 1).size + (putB i.a 1).size + (putB i.b 1).size := by omega
  clear s1 s2 s3 s4 s5 s6 s7 hS hk hT
  have HOK := Lib.hid hok
  have H7 := Lib.hid hk7
  clear hok hk7
  go_enter Try.func63, Try.ntmps63
  go_upto_region 1 with fail
  have R := World.alloc_heap_new w (.cells #[.int .i64 i.op, .int .i64 i.a, .int .i64 i.b, .int .i64 i.t, .slice i.kA i.kn i.kc, .slice i.tA i.tn i.tc, .string i.r1, .string i.r2, .string i.r3, .string i.s] 26)
  have hA := below_al (Below.refl w.heap.size w) (.cells #[.int .i64 i.op, .int .i64 i.a, .int .i64 i.b, .int .i64 i.t, .slice i.kA i.kn i.kc, .slice i.tA i.tn i.tc, .string i.r1, .string i.r2, .string i.r3, .string i.s] 26)
  replace hB := below_al hB (.cells #[.int .i64 i.op, .int .i64 i.a, .int .i64 i.b, .int .i64 i.t, .slice i.kA i.kn i.kc, .slice i.tA i.tn i.tc, .string i.r1, .string i.r2, .string i.r3, .string i.s] 26)
  generalize w.alloc (.cells #[.int .i64 i.op, .int .i64 i.a, .int .i64 i.b, .int .i64 i.t, .slice i.kA i.kn i.kc, .slice i.tA i.tn i.tc, .string i.r1, .string i.r2, .string i.r3, .string i.s] 26) = W1 at R hB hA ⊢
  obtain ⟨r0, r1, r2, r3, r4, r5, r6, r7, r8, r9⟩ := ten_cells R
  have hy := lt_heap R
  replace R := Lib.hid R
  go_upto_region 12 with (first | (go_at_call 51; refine (rkind_any _ _).mono ?_; rintro e w' ⟨rfl, rfl⟩; rw [HK.out]) | (go_at_call 91; refine (num_any _ _ _).mono ?_; rintro e w2 ⟨rfl, hb1⟩; replace R := Lib.hid ((hb1.block _ hy).trans R.out); obtain ⟨r0, r1, r2, r3, r4, r5, r6, r7, r8, r9⟩ := ten_cells R.out; replace hy := Nat.lt_of_lt_of_le hy hb1.size; replace hB := below_on (w := w) hB hb1; clear hb1))
  have hR := R.out
  go_region_held3 (fun w' => w'.cell? ⟨w.heap.size, 0, none⟩ = some (.int .i64 i.op) ∧ w'.cell? ⟨w.heap.size, 1, none⟩ = some (.int .i64 i.a) ∧ w'.cell? ⟨w.heap.size, 2, none⟩ = some (.int .i64 i.b) ∧ w'.cell? ⟨w.heap.size, 3, none⟩ = some (.int .i64 i.t) ∧ w'.cell? ⟨w.heap.size, 4, none⟩ = some (.slice i.kA i.kn i.kc) ∧ w'.cell? ⟨w.heap.size, 5, none⟩ = some (.slice i.tA i.tn i.tc) ∧ w'.cell? ⟨w.heap.size, 6, none⟩ = some (.string i.r1) ∧ w'.cell? ⟨w.heap.size, 7, none⟩ = some (.string i.r2) ∧ w'.cell? ⟨w.heap.size, 8, none⟩ = some (.string i.r3) ∧ w'.cell? ⟨w.heap.size, 9, none⟩ = some (.string i.s) ∧ w'.heap[w.heap.size]? = some (.cells #[.int .i64 i.op, .int .i64 i.a, .int .i64 i.b, .int .i64 i.t, .slice i.kA i.kn i.kc, .slice i.tA i.tn i.tc, .string i.r1, .string i.r2, .string i.r3, .string i.s] 26) ∧ w.heap.size < w'.heap.size ∧ Below w.heap.size w w') (((try go_split_ands); (repeat' apply And.intro) <;> (first | assumption | (first | exact below_on (w := w) (by assumption) hq | exact Below.drew (by assumption) | assumption) | exact (Below.cell hq (by first | omega | (simp; omega))).trans (by assumption) | exact (hq.block _ (by first | omega | (simp; omega))).trans (by first | assumption | (simp; assumption)) | (have := hq.size; omega) | (simp; omega) | go_keep))) (first | (go_at_call 91; refine (num_any _ _ _).mono ?_; rintro e w2 ⟨rfl, hq⟩))
  go_split_ands
  go_wp2
  go_ret
  exact ⟨rfl, by assumption⟩

set_option maxRecDepth 100000 in
set_option maxHeartbeats 2000000 in
theorem rput8_6 (i : In) (P : List Int) (A : Option Addr) (m c : Nat) (w : World) (hk : kindV i.op = 6) (hP : Row w w.heap.size A P) (hm : P.length = m) (hok : i.ok w w.heap.size) (hT : TgOk P i) (hk7 : kindV i.op = 7 → i.tn = i.kn) (hts : i.tn ≤ 100) :
    Calls Try.prog 63 #[(Value.agg #[Value.int IntKind.i64 (In.op i), Value.int IntKind.i64 (In.a i), Value.int IntKind.i64 (In.b i), Value.int IntKind.i64 (In.t i), Value.slice (In.kA i) (In.kn i) (In.kc i), Value.slice (In.tA i) (In.tn i) (In.tc i), Value.string (In.r1 i), Value.string (In.r2 i), Value.string (In.r3 i), Value.string (In.s i)]), .slice A m c] w fun e w' => e = .returned (.string (opB P i)) ∧ Below w.heap.size w w' := by
  have hS : opB P i = opK 6 P i := by unfold opB; rw [hk]
  rw [hS]
  have HK := Lib.hid hk
  have hB : Below w.heap.size w w := Below.refl _ _
  have s1 := putB_size i.op 1
  have s2 := putB_size i.a 1
  have s3 := putB_size i.a 2
  have s4 := putB_size i.b 1
  have s5 := putB_size i.a 4
  have s6 := putB_size i.tn 2
  have s7 := putB_size i.kn 2
  have HT := Lib.hid hT
  have htg := hT i.t (by rw [tg_kind (by omega)]; exact List.mem_cons_self)
  obtain ⟨g, o, rfl, hgB, hc⟩ := hP.at (by omega)
  have hcp := hc i.t.toNat (by omega)
  rw [show P.getD i.t.toNat 0 = plN P i.t from rfl] at hcp
  have ht0 : (0 : Int) ≤ i.t := htg.1
  have ht1 : i.t < (m : Int) := by omega
  obtain ⟨z, hz⟩ : ∃ z, plN P i.t = z := ⟨_, rfl⟩
  rw [hz] at hcp
  have HZ := Lib.hid hz
  have s8 := putB_size z 2
  clear hz htg
  have HC := Lib.hid hc
  clear hc
  have f0 : ¬ 9223372036854775807 < (putB i.op 1).size + (putB z 2).size := by omega
  have f1 : ¬ 9223372036854775807 < (putB i.op 1).size + (putB z 2).size + (putB i.a 4).size := by omega
  have f2 : ¬ 9223372036854775807 < (putB i.op 1).size + (putB z 2).size + (putB i.a 4).size + (putB i.tn 2).size := by omega
  clear s1 s2 s3 s4 s5 s6 s7 s8 hS hk hT
  have HOK := Lib.hid hok
  have H7 := Lib.hid hk7
  clear hok hk7
  go_enter Try.func63, Try.ntmps63
  go_upto_region 1 with fail
  have R := World.alloc_heap_new w (.cells #[.int .i64 i.op, .int .i64 i.a, .int .i64 i.b, .int .i64 i.t, .slice i.kA i.kn i.kc, .slice i.tA i.tn i.tc, .string i.r1, .string i.r2, .string i.r3, .string i.s] 26)
  have hA := below_al (Below.refl w.heap.size w) (.cells #[.int .i64 i.op, .int .i64 i.a, .int .i64 i.b, .int .i64 i.t, .slice i.kA i.kn i.kc, .slice i.tA i.tn i.tc, .string i.r1, .string i.r2, .string i.r3, .string i.s] 26)
  replace hB := below_al hB (.cells #[.int .i64 i.op, .int .i64 i.a, .int .i64 i.b, .int .i64 i.t, .slice i.kA i.kn i.kc, .slice i.tA i.tn i.tc, .string i.r1, .string i.r2, .string i.r3, .string i.s] 26)
  generalize w.alloc (.cells #[.int .i64 i.op, .int .i64 i.a, .int .i64 i.b, .int .i64 i.t, .slice i.kA i.kn i.kc, .slice i.tA i.tn i.tc, .string i.r1, .string i.r2, .string i.r3, .string i.s] 26) = W1 at R hB hA ⊢
  obtain ⟨r0, r1, r2, r3, r4, r5, r6, r7, r8, r9⟩ := ten_cells R
  have hy := lt_heap R
  replace R := Lib.hid R
  replace hcp := (hA.cell (p := ⟨g, _, none⟩) hgB).trans hcp
  obtain ⟨X, hX⟩ : ∃ X, i.tA = X := ⟨_, rfl⟩
  have HXR := Lib.hid (show Row w w.heap.size X i.ts by rw [← hX]; exact HOK.out.2.2.2.2.2.2.2)
  obtain ⟨Y, hY⟩ : ∃ Y, i.kA = Y := ⟨_, rfl⟩
  have HYR := Lib.hid (show Row w w.heap.size Y i.ks by rw [← hY]; exact HOK.out.2.2.2.1)
  have HL := Lib.hid (show i.ts.length = i.tn ∧ i.ks.length = i.kn from ⟨HOK.out.2.2.2.2.1, HOK.out.1⟩)
  skip
  skip
  skip
  have hkb : i.tn ≤ 100 := by omega
  go_upto_region 14 with (first | (go_at_call 51; refine (rkind_any _ _).mono ?_; rintro e w' ⟨rfl, rfl⟩; rw [HK.out]) | (go_at_call 91; refine (num_any _ _ _).mono ?_; rintro e w2 ⟨rfl, hb1⟩; replace hcp := (hb1.cell (p := ⟨g, _, none⟩) (Nat.lt_of_lt_of_le hgB hB.size)).trans hcp; replace R := Lib.hid ((hb1.block _ hy).trans R.out); obtain ⟨r0, r1, r2, r3, r4, r5, r6, r7, r8, r9⟩ := ten_cells R.out; replace hy := Nat.lt_of_lt_of_le hy hb1.size; replace hB := below_on (w := w) hB hb1; clear hb1))
  have hR := R.out
  go_region_held3 (fun w' => w'.cell? ⟨w.heap.size, 0, none⟩ = some (.int .i64 i.op) ∧ w'.cell? ⟨w.heap.size, 1, none⟩ = some (.int .i64 i.a) ∧ w'.cell? ⟨w.heap.size, 2, none⟩ = some (.int .i64 i.b) ∧ w'.cell? ⟨w.heap.size, 3, none⟩ = some (.int .i64 i.t) ∧ w'.cell? ⟨w.heap.size, 4, none⟩ = some (.slice i.kA i.kn i.kc) ∧ w'.cell? ⟨w.heap.size, 5, none⟩ = some (.slice i.tA i.tn i.tc) ∧ w'.cell? ⟨w.heap.size, 6, none⟩ = some (.string i.r1) ∧ w'.cell? ⟨w.heap.size, 7, none⟩ = some (.string i.r2) ∧ w'.cell? ⟨w.heap.size, 8, none⟩ = some (.string i.r3) ∧ w'.cell? ⟨w.heap.size, 9, none⟩ = some (.string i.s) ∧ w'.cell? ⟨g, o + i.t.toNat, none⟩ = some (.int .i64 z) ∧ w'.heap[w.heap.size]? = some (.cells #[.int .i64 i.op, .int .i64 i.a, .int .i64 i.b, .int .i64 i.t, .slice i.kA i.kn i.kc, .slice i.tA i.tn i.tc, .string i.r1, .string i.r2, .string i.r3, .string i.s] 26) ∧ w.heap.size < w'.heap.size ∧ Below w.heap.size w w') (((try go_split_ands); (repeat' apply And.intro) <;> (first | assumption | (first | exact below_on (w := w) (by assumption) hq | exact Below.drew (by assumption) | assumption) | exact (Below.cell hq (by first | omega | (simp; omega))).trans (by assumption) | exact (hq.block _ (by first | omega | (simp; omega))).trans (by first | assumption | (simp; assumption)) | (have := hq.size; omega) | (simp; omega) | go_keep))) (first | (go_at_call 91; refine (num_any _ _ _).mono ?_; rintro e w2 ⟨rfl, hq⟩))
  go_split_ands
  have HRW := Lib.hid (show w2.heap[w.heap.size]? = some (.cells #[.int .i64 i.op, .int .i64 i.a, .int .i64 i.b, .int .i64 i.t, .slice i.kA i.kn i.kc, .slice i.tA i.tn i.tc, .string i.r1, .string i.r2, .string i.r3, .string i.s] 26) by assumption)
  have HBW := Lib.hid (show Below w.heap.size w w2 by assumption)
  obtain ⟨S0, hS0⟩ : ∃ S0, putB i.op 1 ++ putB z 2 ++ putB i.a 4 ++ putB i.tn 2 = S0 := ⟨_, rfl⟩
  have HS0 := Lib.hid (show S0 = tsF P (st6 P i) (i.ts.take 0) by rw [← hS0, ← HZ.out]; rfl)
  go_upto_region 16 with fail
  rw [hS0]
  clear hS0
  (try simp only [hX, hY])
  go_loopw [5, 6] (fun s x wr => ∃ j : Nat, j ≤ i.tn ∧ x = .int .i64 j ∧ s = .string (tsF P (st6 P i) (i.ts.take j)) ∧ wr.heap[w.heap.size]? = some (.cells #[.int .i64 i.op, .int .i64 i.a, .int .i64 i.b, .int .i64 i.t, .slice i.kA i.kn i.kc, .slice i.tA i.tn i.tc, .string i.r1, .string i.r2, .string i.r3, .string i.s] 26) ∧ Below w.heap.size w wr) (fun _ x _ => i.tn - (intOf x).toNat)
  case atStart => exact ⟨0, Nat.zero_le _, rfl, by rw [HS0.out], HRW.out, HBW.out⟩
  case round =>
    clear HRW HBW R hR
    obtain ⟨j, hj, rfl, rfl, hR, hBr⟩ := hrel
    obtain ⟨r0, r1, r2, r3, r4, r5, r6, r7, r8, r9⟩ := ten_cells hR
    have hy := lt_heap hR
    have R := Lib.hid hR
    clear hR
    by_cases hlt : j < i.tn
    · have up : ∀ g o v, g < w.heap.size → w.cell? ⟨g, o, none⟩ = some v → wr.cell? ⟨g, o, none⟩ = some v := fun g o v hg h => (hBr.cell (p := ⟨g, o, none⟩) hg).trans h
      obtain ⟨g2, o2, rfl, hg2, hc2⟩ := HXR.out.at (by have := HL.out.1; omega)
      have hcj := up _ _ _ hg2 (hc2 j (by have := HL.out.1; omega))
      obtain ⟨x, hx⟩ : ∃ x, i.ts.getD j 0 = x := ⟨_, rfl⟩
      have hxm : i.ts[j]? = some x := by
        have hl : j < i.ts.length := by have := HL.out.1; omega
        rw [← hx, List.getD_eq_getElem?_getD, List.getElem?_eq_getElem hl]; rfl
      have hxb := HT.out x (by rw [tg_kind (by have := HK.out; omega)]; exact List.mem_cons_of_mem _ (List.mem_of_getElem? hxm))
      rw [hx] at hcj
      have hcp := up _ _ _ hgB (HC.out x.toNat (by omega))
      rw [show P.getD x.toNat 0 = plN P x from rfl] at hcp
      obtain ⟨y, hy2⟩ : ∃ y, plN P x = y := ⟨_, rfl⟩
      rw [hy2] at hcp
      have hx0 : (0 : Int) ≤ x := hxb.1
      have hx1 : x < (m : Int) := by omega
      have HXY := Lib.hid (And.intro hxm hy2)
      have hj0 : (0 : Int) ≤ (j : Int) := by omega
      have hj1 : (j : Int) < (i.tn : Int) := by omega
      have hsx : (tsF P (st6 P i) (i.ts.take j)).size ≤ 3000 := by
        have h1 := tsF_size P (i.ts.take j) (st6 P i)
        have h2 := st6_size P i
        rw [List.length_take] at h1
        omega
      obtain ⟨acc, hacc⟩ : ∃ acc, tsF P (st6 P i) (i.ts.take j) = acc := ⟨_, rfl⟩
      rw [hacc] at hsx ⊢
      have HACC := Lib.hid hacc
      have s9 := putB_size y 2
      have f9 : ¬ 9223372036854775807 < acc.size + (putB y 2).size := by omega
      clear up hc2 hx hxm hxb hy2 hacc s9
      go_wp2_with (go_at_call 91; refine (num_any _ _ _).mono ?_; rintro e w5 ⟨rfl, hb1⟩)
      go_roundw
      case rel =>
        refine ⟨j + 1, hlt, by go_num, ?_, (hb1.block _ hy).trans R.out, below_on hBr hb1⟩
        rw [take_snoc HXY.out.1, tsF_snoc, HACC.out, HXY.out.2]
      case measure => simp [intOf]; omega
    · obtain ⟨rfl⟩ : i.tn = j := by omega
      have hfin : tsF P (st6 P i) (i.ts.take i.tn) = tsF P (st6 P i) i.ts := by rw [List.take_of_length_le (by have := HL.out.1; omega)]
      rw [hfin]
      clear hfin
      go_wp2
      go_ret
      exact ⟨rfl, hBr⟩

set_option maxRecDepth 100000 in
set_option maxHeartbeats 2000000 in
theorem rput8_7 (i : In) (P : List Int) (A : Option Addr) (m c : Nat) (w : World) (hk : kindV i.op = 7) (hP : Row w w.heap.size A P) (hm : P.length = m) (hok : i.ok w w.heap.size) (hT : TgOk P i) (hk7 : kindV i.op = 7 → i.tn = i.kn) (hts : i.tn ≤ 100) :
    Calls Try.prog 63 #[(Value.agg #[Value.int IntKind.i64 (In.op i), Value.int IntKind.i64 (In.a i), Value.int IntKind.i64 (In.b i), Value.int IntKind.i64 (In.t i), Value.slice (In.kA i) (In.kn i) (In.kc i), Value.slice (In.tA i) (In.tn i) (In.tc i), Value.string (In.r1 i), Value.string (In.r2 i), Value.string (In.r3 i), Value.string (In.s i)]), .slice A m c] w fun e w' => e = .returned (.string (opB P i)) ∧ Below w.heap.size w w' := by
  have hS : opB P i = opK 7 P i := by unfold opB; rw [hk]
  rw [hS]
  have HK := Lib.hid hk
  have hB : Below w.heap.size w w := Below.refl _ _
  have s1 := putB_size i.op 1
  have s2 := putB_size i.a 1
  have s3 := putB_size i.a 2
  have s4 := putB_size i.b 1
  have s5 := putB_size i.a 4
  have s6 := putB_size i.tn 2
  have s7 := putB_size i.kn 2
  have HT := Lib.hid hT
  have htg := hT i.t (by rw [tg_kind (by omega)]; exact List.mem_cons_self)
  obtain ⟨g, o, rfl, hgB, hc⟩ := hP.at (by omega)
  have hcp := hc i.t.toNat (by omega)
  rw [show P.getD i.t.toNat 0 = plN P i.t from rfl] at hcp
  have ht0 : (0 : Int) ≤ i.t := htg.1
  have ht1 : i.t < (m : Int) := by omega
  obtain ⟨z, hz⟩ : ∃ z, plN P i.t = z := ⟨_, rfl⟩
  rw [hz] at hcp
  have HZ := Lib.hid hz
  have s8 := putB_size z 2
  clear hz htg
  have HC := Lib.hid hc
  clear hc
  have f0 : ¬ 9223372036854775807 < (putB i.op 1).size + (putB z 2).size := by omega
  have f1 : ¬ 9223372036854775807 < (putB i.op 1).size + (putB z 2).size + (putB i.kn 2).size := by omega
  clear s1 s2 s3 s4 s5 s6 s7 s8 hS hk hT
  have HOK := Lib.hid hok
  have H7 := Lib.hid hk7
  clear hok hk7
  go_enter Try.func63, Try.ntmps63
  go_upto_region 1 with fail
  have R := World.alloc_heap_new w (.cells #[.int .i64 i.op, .int .i64 i.a, .int .i64 i.b, .int .i64 i.t, .slice i.kA i.kn i.kc, .slice i.tA i.tn i.tc, .string i.r1, .string i.r2, .string i.r3, .string i.s] 26)
  have hA := below_al (Below.refl w.heap.size w) (.cells #[.int .i64 i.op, .int .i64 i.a, .int .i64 i.b, .int .i64 i.t, .slice i.kA i.kn i.kc, .slice i.tA i.tn i.tc, .string i.r1, .string i.r2, .string i.r3, .string i.s] 26)
  replace hB := below_al hB (.cells #[.int .i64 i.op, .int .i64 i.a, .int .i64 i.b, .int .i64 i.t, .slice i.kA i.kn i.kc, .slice i.tA i.tn i.tc, .string i.r1, .string i.r2, .string i.r3, .string i.s] 26)
  generalize w.alloc (.cells #[.int .i64 i.op, .int .i64 i.a, .int .i64 i.b, .int .i64 i.t, .slice i.kA i.kn i.kc, .slice i.tA i.tn i.tc, .string i.r1, .string i.r2, .string i.r3, .string i.s] 26) = W1 at R hB hA ⊢
  obtain ⟨r0, r1, r2, r3, r4, r5, r6, r7, r8, r9⟩ := ten_cells R
  have hy := lt_heap R
  replace R := Lib.hid R
  replace hcp := (hA.cell (p := ⟨g, _, none⟩) hgB).trans hcp
  obtain ⟨X, hX⟩ : ∃ X, i.tA = X := ⟨_, rfl⟩
  have HXR := Lib.hid (show Row w w.heap.size X i.ts by rw [← hX]; exact HOK.out.2.2.2.2.2.2.2)
  obtain ⟨Y, hY⟩ : ∃ Y, i.kA = Y := ⟨_, rfl⟩
  have HYR := Lib.hid (show Row w w.heap.size Y i.ks by rw [← hY]; exact HOK.out.2.2.2.1)
  have HL := Lib.hid (show i.ts.length = i.tn ∧ i.ks.length = i.kn from ⟨HOK.out.2.2.2.2.1, HOK.out.1⟩)
  have h7 : i.tn = i.kn := H7.out HK.out
  have HT7 := Lib.hid h7
  clear h7
  have hkb : i.kn ≤ 100 := by have := HT7.out; omega
  go_upto_region 20 with (first | (go_at_call 51; refine (rkind_any _ _).mono ?_; rintro e w' ⟨rfl, rfl⟩; rw [HK.out]) | (go_at_call 91; refine (num_any _ _ _).mono ?_; rintro e w2 ⟨rfl, hb1⟩; replace hcp := (hb1.cell (p := ⟨g, _, none⟩) (Nat.lt_of_lt_of_le hgB hB.size)).trans hcp; replace R := Lib.hid ((hb1.block _ hy).trans R.out); obtain ⟨r0, r1, r2, r3, r4, r5, r6, r7, r8, r9⟩ := ten_cells R.out; replace hy := Nat.lt_of_lt_of_le hy hb1.size; replace hB := below_on (w := w) hB hb1; clear hb1))
  have hR := R.out
  go_region_held3 (fun w' => w'.cell? ⟨w.heap.size, 0, none⟩ = some (.int .i64 i.op) ∧ w'.cell? ⟨w.heap.size, 1, none⟩ = some (.int .i64 i.a) ∧ w'.cell? ⟨w.heap.size, 2, none⟩ = some (.int .i64 i.b) ∧ w'.cell? ⟨w.heap.size, 3, none⟩ = some (.int .i64 i.t) ∧ w'.cell? ⟨w.heap.size, 4, none⟩ = some (.slice i.kA i.kn i.kc) ∧ w'.cell? ⟨w.heap.size, 5, none⟩ = some (.slice i.tA i.tn i.tc) ∧ w'.cell? ⟨w.heap.size, 6, none⟩ = some (.string i.r1) ∧ w'.cell? ⟨w.heap.size, 7, none⟩ = some (.string i.r2) ∧ w'.cell? ⟨w.heap.size, 8, none⟩ = some (.string i.r3) ∧ w'.cell? ⟨w.heap.size, 9, none⟩ = some (.string i.s) ∧ w'.cell? ⟨g, o + i.t.toNat, none⟩ = some (.int .i64 z) ∧ w'.heap[w.heap.size]? = some (.cells #[.int .i64 i.op, .int .i64 i.a, .int .i64 i.b, .int .i64 i.t, .slice i.kA i.kn i.kc, .slice i.tA i.tn i.tc, .string i.r1, .string i.r2, .string i.r3, .string i.s] 26) ∧ w.heap.size < w'.heap.size ∧ Below w.heap.size w w') (((try go_split_ands); (repeat' apply And.intro) <;> (first | assumption | (first | exact below_on (w := w) (by assumption) hq | exact Below.drew (by assumption) | assumption) | exact (Below.cell hq (by first | omega | (simp; omega))).trans (by assumption) | exact (hq.block _ (by first | omega | (simp; omega))).trans (by first | assumption | (simp; assumption)) | (have := hq.size; omega) | (simp; omega) | go_keep))) (first | (go_at_call 91; refine (num_any _ _ _).mono ?_; rintro e w2 ⟨rfl, hq⟩))
  go_split_ands
  have HRW := Lib.hid (show w2.heap[w.heap.size]? = some (.cells #[.int .i64 i.op, .int .i64 i.a, .int .i64 i.b, .int .i64 i.t, .slice i.kA i.kn i.kc, .slice i.tA i.tn i.tc, .string i.r1, .string i.r2, .string i.r3, .string i.s] 26) by assumption)
  have HBW := Lib.hid (show Below w.heap.size w w2 by assumption)
  obtain ⟨S0, hS0⟩ : ∃ S0, putB i.op 1 ++ putB z 2 ++ putB i.kn 2 = S0 := ⟨_, rfl⟩
  have HS0 := Lib.hid (show S0 = ksF P (st7 P i) ((i.ks.zip i.ts).take 0) by rw [← hS0, ← HZ.out]; rfl)
  go_upto_region 22 with fail
  rw [hS0]
  clear hS0
  (try simp only [hX, hY])
  go_loopw [5, 7] (fun s x wr => ∃ j : Nat, j ≤ i.kn ∧ x = .int .i64 j ∧ s = .string (ksF P (st7 P i) ((i.ks.zip i.ts).take j)) ∧ wr.heap[w.heap.size]? = some (.cells #[.int .i64 i.op, .int .i64 i.a, .int .i64 i.b, .int .i64 i.t, .slice i.kA i.kn i.kc, .slice i.tA i.tn i.tc, .string i.r1, .string i.r2, .string i.r3, .string i.s] 26) ∧ Below w.heap.size w wr) (fun _ x _ => i.kn - (intOf x).toNat)
  case atStart => exact ⟨0, Nat.zero_le _, rfl, by rw [HS0.out], HRW.out, HBW.out⟩
  case round =>
    clear HRW HBW R hR
    obtain ⟨j, hj, rfl, rfl, hR, hBr⟩ := hrel
    obtain ⟨r0, r1, r2, r3, r4, r5, r6, r7, r8, r9⟩ := ten_cells hR
    have hy := lt_heap hR
    have R := Lib.hid hR
    clear hR
    by_cases hlt : j < i.kn
    · have up : ∀ g o v, g < w.heap.size → w.cell? ⟨g, o, none⟩ = some v → wr.cell? ⟨g, o, none⟩ = some v := fun g o v hg h => (hBr.cell (p := ⟨g, o, none⟩) hg).trans h
      obtain ⟨g2, o2, rfl, hg2, hc2⟩ := HXR.out.at (by have := HL.out.1; have := HT7.out; omega)
      have hcj := up _ _ _ hg2 (hc2 j (by have := HL.out.1; have := HT7.out; omega))
      obtain ⟨x, hx⟩ : ∃ x, i.ts.getD j 0 = x := ⟨_, rfl⟩
      have hxm : i.ts[j]? = some x := by
        have hl : j < i.ts.length := by have := HL.out.1; have := HT7.out; omega
        rw [← hx, List.getD_eq_getElem?_getD, List.getElem?_eq_getElem hl]; rfl
      have hxb := HT.out x (by rw [tg_kind (by have := HK.out; omega)]; exact List.mem_cons_of_mem _ (List.mem_of_getElem? hxm))
      rw [hx] at hcj
      have hcp := up _ _ _ hgB (HC.out x.toNat (by omega))
      rw [show P.getD x.toNat 0 = plN P x from rfl] at hcp
      obtain ⟨y, hy2⟩ : ∃ y, plN P x = y := ⟨_, rfl⟩
      rw [hy2] at hcp
      have hx0 : (0 : Int) ≤ x := hxb.1
      have hx1 : x < (m : Int) := by omega
      have HXY := Lib.hid (And.intro hxm hy2)
      obtain ⟨g3, o3, rfl, hg3, hc3⟩ := HYR.out.at (by have := HL.out.2; omega)
      have hck := up _ _ _ hg3 (hc3 j (by have := HL.out.2; omega))
      obtain ⟨q, hq⟩ : ∃ q, i.ks.getD j 0 = q := ⟨_, rfl⟩
      have hqm : i.ks[j]? = some q := by
        have hl : j < i.ks.length := by have := HL.out.2; omega
        rw [← hq, List.getD_eq_getElem?_getD, List.getElem?_eq_getElem hl]; rfl
      rw [hq] at hck
      have HQ := Lib.hid hqm
      have h7j : (j : Int) < (i.tn : Int) := by have := HT7.out; omega
      clear hc3 hq hqm
      have hj0 : (0 : Int) ≤ (j : Int) := by omega
      have hj1 : (j : Int) < (i.kn : Int) := by omega
      have hsx : (ksF P (st7 P i) ((i.ks.zip i.ts).take j)).size ≤ 3000 := by
        have h1 := ksF_size P ((i.ks.zip i.ts).take j) (st7 P i)
        have h2 := st7_size P i
        rw [List.length_take] at h1
        omega
      obtain ⟨acc, hacc⟩ : ∃ acc, ksF P (st7 P i) ((i.ks.zip i.ts).take j) = acc := ⟨_, rfl⟩
      rw [hacc] at hsx ⊢
      have HACC := Lib.hid hacc
      have s9 := putB_size y 2
      have s10 := putB_size q 4
      have f9 : ¬ 9223372036854775807 < acc.size + (putB q 4).size := by omega
      have f10 : ¬ 9223372036854775807 < acc.size + (putB q 4).size + (putB y 2).size := by omega
      clear up hc2 hx hxm hxb hy2 hacc s9 s10
      have hR := R.out
      go_wp2
      go_region_held3 (fun w' => w'.cell? ⟨w.heap.size, 0, none⟩ = some (.int .i64 i.op) ∧ w'.cell? ⟨w.heap.size, 1, none⟩ = some (.int .i64 i.a) ∧ w'.cell? ⟨w.heap.size, 2, none⟩ = some (.int .i64 i.b) ∧ w'.cell? ⟨w.heap.size, 3, none⟩ = some (.int .i64 i.t) ∧ w'.cell? ⟨w.heap.size, 4, none⟩ = some (.slice i.kA i.kn i.kc) ∧ w'.cell? ⟨w.heap.size, 5, none⟩ = some (.slice i.tA i.tn i.tc) ∧ w'.cell? ⟨w.heap.size, 6, none⟩ = some (.string i.r1) ∧ w'.cell? ⟨w.heap.size, 7, none⟩ = some (.string i.r2) ∧ w'.cell? ⟨w.heap.size, 8, none⟩ = some (.string i.r3) ∧ w'.cell? ⟨w.heap.size, 9, none⟩ = some (.string i.s) ∧ w'.cell? ⟨g, o + x.toNat, none⟩ = some (.int .i64 y) ∧ w'.cell? ⟨g2, o2 + j, none⟩ = some (.int .i64 x) ∧ w'.cell? ⟨g3, o3 + j, none⟩ = some (.int .i64 q) ∧ w'.heap[w.heap.size]? = some (.cells #[.int .i64 i.op, .int .i64 i.a, .int .i64 i.b, .int .i64 i.t, .slice i.kA i.kn i.kc, .slice i.tA i.tn i.tc, .string i.r1, .string i.r2, .string i.r3, .string i.s] 26) ∧ w.heap.size < w'.heap.size ∧ Below w.heap.size w w') (((try go_split_ands); (repeat' apply And.intro) <;> (first | assumption | (first | exact below_on (w := w) (by assumption) hq | exact Below.drew (by assumption) | assumption) | exact (Below.cell hq (by first | omega | (simp; omega))).trans (by assumption) | exact (hq.block _ (by first | omega | (simp; omega))).trans (by first | assumption | (simp; assumption)) | (have := hq.size; omega) | (simp; omega) | go_keep))) (first | (go_at_call 91; refine (num_any _ _ _).mono ?_; rintro e w2 ⟨rfl, hq⟩))
      go_split_ands
      have HRW := Lib.hid (show w2.heap[w.heap.size]? = some (.cells #[.int .i64 i.op, .int .i64 i.a, .int .i64 i.b, .int .i64 i.t, .slice i.kA i.kn i.kc, .slice i.tA i.tn i.tc, .string i.r1, .string i.r2, .string i.r3, .string i.s] 26) by assumption)
      have HBW := Lib.hid (show Below w.heap.size w w2 by assumption)
      go_wp2
      go_roundw
      case rel =>
        refine ⟨j + 1, hlt, by go_num, ?_, HRW.out, HBW.out⟩
        have hzp : (i.ks.zip i.ts)[j]? = some (q, x) := by rw [List.getElem?_zip_eq_some]; exact ⟨HQ.out, HXY.out.1⟩
        rw [take_snoc hzp, ksF_snoc, HACC.out, HXY.out.2]
      case measure => simp [intOf]; omega
    · obtain ⟨rfl⟩ : i.kn = j := by omega
      have hfin : ksF P (st7 P i) ((i.ks.zip i.ts).take i.kn) = ksF P (st7 P i) (i.ks.zip i.ts) := by rw [List.take_of_length_le (by rw [List.length_zip]; have := HL.out.2; omega)]
      rw [hfin]
      clear hfin
      go_wp2
      go_ret
      exact ⟨rfl, hBr⟩

end Go.Proofs.Ytpghkdmljanncaa
