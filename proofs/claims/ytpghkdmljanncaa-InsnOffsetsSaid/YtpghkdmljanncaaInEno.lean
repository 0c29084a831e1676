/- Layer 8: encodeOne. -/
import Derived.Test.YtpghkdmljanncaaInEs
import Derived.Test.YtpghkdmljanncaaOpcNum
namespace Go.Proofs.Ytpghkdmljanncaa
open Go.ChangeShapes Go.WideShapes Go.ChangeAt Go.RowKit Go.PlainAid
set_option linter.unusedSimpArgs false
set_option linter.unusedVariables false

abbrev Sb : Nat → Nat → List Value → World → Prop := fun B b bs w => Lib.BuilderAt 76 5 B b (.pointer (some ⟨b, 0, none⟩)) bs w
/-- the builder holds x more; all else is as it was in W1 -/
def EnSt (W1 wr : World) (B b : Nat) (bs : List Value) (x : ByteArray) : Prop := Sb B b (bs ++ Lib.strCells x) wr ∧ Below B W1 wr ∧ Apart b W1 wr
theorem EnSt.first {W1 w2 : World} {B b : Nat} {bs : List Value} {y : ByteArray} (h1 : Sb B b (bs ++ Lib.strCells y) w2) (hb : Below B W1 w2) (ha : Apart b W1 w2) : EnSt W1 w2 B b bs y := ⟨h1, hb, ha⟩
theorem EnSt.step {W1 wr w2 : World} {B b : Nat} {bs : List Value} {x y : ByteArray} (h : EnSt W1 wr B b bs x) (h1 : Sb B b (bs ++ Lib.strCells x ++ Lib.strCells y) w2) (hb : Below B wr w2) (ha : Apart b wr w2) : EnSt W1 w2 B b bs (x ++ y) :=
  ⟨by rw [strC_app, ← List.append_assoc]; exact h1, h.2.1.trans hb, h.2.2.trans ha⟩
theorem EnSt.size {W1 wr : World} {B b : Nat} {bs : List Value} {x : ByteArray} (h : EnSt W1 wr B b bs x) : W1.heap.size ≤ wr.heap.size := h.2.1.size
theorem EnSt.len {bs : List Value} {x : ByteArray} (h1 : bs.length ≤ 1000000000) (h2 : x.size ≤ 100000) : (bs ++ Lib.strCells x).length + 8 ≤ 140737488355328 := by rw [List.length_append, Lib.strCells_length]; omega
/-- what encodeOne leaves -/
def EnRet (w : World) (B b : Nat) (bs : List Value) (x : ByteArray) (e : Ending) (w' : World) : Prop := e = .returned (.tuple #[]) ∧ EnSt w w' B b bs x

theorem sz_app {x y : ByteArray} {n m : Nat} (h : x.size ≤ n) (h2 : y.size ≤ m) : (x ++ y).size ≤ n + m := by rw [ByteArray.size_append]; omega
theorem sz_st {W1 wr : World} {B b m : Nat} {bs : List Value} {x : ByteArray} {n z : Int} (h : EnSt W1 wr B b bs (x ++ putB n z)) (h2 : x.size ≤ m) : (x ++ putB n z).size ≤ m + 8 := sz_app h2 (putB_size n z)

set_option maxRecDepth 100000 in
set_option maxHeartbeats 2000000 in
theorem eno_0 (B b : Nat) (bs : List Value) (i : In) (P : List Int) (A : Option Addr) (m c : Nat) (w : World) (hk : kindV i.op = 0) (hlt : b < w.heap.size) (h : Lib.IsBuilder 76 5 B b bs w) (hbs : bs.length ≤ 1000000000) (hBw : B ≤ w.heap.size)
    (hP : Row w B A P) (hm : P.length = m) (hok : i.ok w B) (hT : TgOk P i) (hk7 : kindV i.op = 7 → i.tn = i.kn) (hts : i.tn ≤ 100) : Calls Try.prog 61 #[.pointer (some ⟨b, 0, none⟩), (Value.agg #[Value.int IntKind.i64 (In.op i), Value.int IntKind.i64 (In.a i), Value.int IntKind.i64 (In.b i), Value.int IntKind.i64 (In.t i), Value.slice (In.kA i) (In.kn i) (In.kc i), Value.slice (In.tA i) (In.tn i) (In.tc i), Value.string (In.r1 i), Value.string (In.r2 i), Value.string (In.r3 i), Value.string (In.s i)]), .slice A m c] w (EnRet w B b bs (opB P i)) := by
  have hS : opB P i = opK 0 P i := by unfold opB; rw [hk]
  rw [hS]
  have HK := Lib.hid hk
  have hB : Below w.heap.size w w := Below.refl _ _
  have sz0 := putB_size i.op 1
  have HOK := Lib.hid hok
  have HP := Lib.hid hP
  skip
  have H7 := Lib.hid hk7
  clear hok hP hk7  hS hk hT
  have IB0 := Lib.hid h
  clear h
  go_enter Try.func61, Try.ntmps61
  go_upto_region 1 with fail
  have R := World.alloc_heap_new w (.cells #[.int .i64 i.op, .int .i64 i.a, .int .i64 i.b, .int .i64 i.t, .slice i.kA i.kn i.kc, .slice i.tA i.tn i.tc, .string i.r1, .string i.r2, .string i.r3, .string i.s] 26)
  have IB := Lib.hid (isb_keep IB0.out (below_al (Below.refl _ _) (.cells #[.int .i64 i.op, .int .i64 i.a, .int .i64 i.b, .int .i64 i.t, .slice i.kA i.kn i.kc, .slice i.tA i.tn i.tc, .string i.r1, .string i.r2, .string i.r3, .string i.s] 26)))
  have HBB := Lib.hid ((Below.refl B w).alloc hBw (.cells #[.int .i64 i.op, .int .i64 i.a, .int .i64 i.b, .int .i64 i.t, .slice i.kA i.kn i.kc, .slice i.tA i.tn i.tc, .string i.r1, .string i.r2, .string i.r3, .string i.s] 26))
  have HAP := Lib.hid (apart_below (b := b) (below_al (Below.refl w.heap.size w) (.cells #[.int .i64 i.op, .int .i64 i.a, .int .i64 i.b, .int .i64 i.t, .slice i.kA i.kn i.kc, .slice i.tA i.tn i.tc, .string i.r1, .string i.r2, .string i.r3, .string i.s] 26)))
  replace hB := below_al hB (.cells #[.int .i64 i.op, .int .i64 i.a, .int .i64 i.b, .int .i64 i.t, .slice i.kA i.kn i.kc, .slice i.tA i.tn i.tc, .string i.r1, .string i.r2, .string i.r3, .string i.s] 26)
  generalize w.alloc (.cells #[.int .i64 i.op, .int .i64 i.a, .int .i64 i.b, .int .i64 i.t, .slice i.kA i.kn i.kc, .slice i.tA i.tn i.tc, .string i.r1, .string i.r2, .string i.r3, .string i.s] 26) = W1 at R hB IB HBB HAP ⊢
  obtain ⟨r0, r1, r2, r3, r4, r5, r6, r7, r8, r9⟩ := ten_cells R
  have y1 := lt_heap R
  replace R := Lib.hid R
  have hne : w.heap.size ≠ b := by omega
  clear IB0
  go_upto_region 2 with (go_at_call 90; refine (putI_any B b _ _ _ _ IB.out (by omega) (Nat.le_trans hBw hB.size)).mono ?_; rintro e w2 ⟨rfl, h1, hb1, ha1⟩; have ST := Lib.hid (EnSt.first (W1 := W1) h1 hb1 ha1); obtain ⟨r0, r1, r2, r3, r4, r5, r6, r7, r8, r9⟩ := ten_cells (ST.out.2.2 _ _ _ _ hne (by decide) R.out); have SX := Lib.hid sz0;  clear IB h1 hb1 ha1)
  go_wp2_with (first | (go_at_call 47; refine (kind_any _ _).mono ?_; rintro e w' ⟨rfl, rfl⟩; rw [HK.out]) | (go_at_call 90; refine (putI_any B b _ _ _ _ (Or.inr ST.out.1) (EnSt.len hbs (Nat.le_trans SX.out (by decide))) (Nat.le_trans hBw (Nat.le_trans hB.size ST.out.size))).mono ?_; rintro e w2 ⟨rfl, h1, hb1, ha1⟩; replace ST := Lib.hid (ST.out.step h1 hb1 ha1); replace SX := Lib.hid (sz_st ST.out SX.out); obtain ⟨r0, r1, r2, r3, r4, r5, r6, r7, r8, r9⟩ := ten_cells (ST.out.2.2 _ _ _ _ hne (by decide) R.out);  clear h1 hb1 ha1))
  go_end0
  exact ⟨rfl, ST.out.1, HBB.out.trans ST.out.2.1, HAP.out.trans ST.out.2.2⟩

set_option maxRecDepth 100000 in
set_option maxHeartbeats 2000000 in
theorem eno_1 (B b : Nat) (bs : List Value) (i : In) (P : List Int) (A : Option Addr) (m c : Nat) (w : World) (hk : kindV i.op = 1) (hlt : b < w.heap.size) (h : Lib.IsBuilder 76 5 B b bs w) (hbs : bs.length ≤ 1000000000) (hBw : B ≤ w.heap.size)
    (hP : Row w B A P) (hm : P.length = m) (hok : i.ok w B) (hT : TgOk P i) (hk7 : kindV i.op = 7 → i.tn = i.kn) (hts : i.tn ≤ 100) : Calls Try.prog 61 #[.pointer (some ⟨b, 0, none⟩), (Value.agg #[Value.int IntKind.i64 (In.op i), Value.int IntKind.i64 (In.a i), Value.int IntKind.i64 (In.b i), Value.int IntKind.i64 (In.t i), Value.slice (In.kA i) (In.kn i) (In.kc i), Value.slice (In.tA i) (In.tn i) (In.tc i), Value.string (In.r1 i), Value.string (In.r2 i), Value.string (In.r3 i), Value.string (In.s i)]), .slice A m c] w (EnRet w B b bs (opB P i)) := by
  have hS : opB P i = opK 1 P i := by unfold opB; rw [hk]
  rw [hS]
  have HK := Lib.hid hk
  have hB : Below w.heap.size w w := Below.refl _ _
  have sz0 := putB_size i.op 1
  have HOK := Lib.hid hok
  have HP := Lib.hid hP
  skip
  have H7 := Lib.hid hk7
  clear hok hP hk7  hS hk hT
  have IB0 := Lib.hid h
  clear h
  go_enter Try.func61, Try.ntmps61
  go_upto_region 1 with fail
  have R := World.alloc_heap_new w (.cells #[.int .i64 i.op, .int .i64 i.a, .int .i64 i.b, .int .i64 i.t, .slice i.kA i.kn i.kc, .slice i.tA i.tn i.tc, .string i.r1, .string i.r2, .string i.r3, .string i.s] 26)
  have IB := Lib.hid (isb_keep IB0.out (below_al (Below.refl _ _) (.cells #[.int .i64 i.op, .int .i64 i.a, .int .i64 i.b, .int .i64 i.t, .slice i.kA i.kn i.kc, .slice i.tA i.tn i.tc, .string i.r1, .string i.r2, .string i.r3, .string i.s] 26)))
  have HBB := Lib.hid ((Below.refl B w).alloc hBw (.cells #[.int .i64 i.op, .int .i64 i.a, .int .i64 i.b, .int .i64 i.t, .slice i.kA i.kn i.kc, .slice i.tA i.tn i.tc, .string i.r1, .string i.r2, .string i.r3, .string i.s] 26))
  have HAP := Lib.hid (apart_below (b := b) (below_al (Below.refl w.heap.size w) (.cells #[.int .i64 i.op, .int .i64 i.a, .int .i64 i.b, .int .i64 i.t, .slice i.kA i.kn i.kc, .slice i.tA i.tn i.tc, .string i.r1, .string i.r2, .string i.r3, .string i.s] 26)))
  replace hB := below_al hB (.cells #[.int .i64 i.op, .int .i64 i.a, .int .i64 i.b, .int .i64 i.t, .slice i.kA i.kn i.kc, .slice i.tA i.tn i.tc, .string i.r1, .string i.r2, .string i.r3, .string i.s] 26)
  generalize w.alloc (.cells #[.int .i64 i.op, .int .i64 i.a, .int .i64 i.b, .int .i64 i.t, .slice i.kA i.kn i.kc, .slice i.tA i.tn i.tc, .string i.r1, .string i.r2, .string i.r3, .string i.s] 26) = W1 at R hB IB HBB HAP ⊢
  obtain ⟨r0, r1, r2, r3, r4, r5, r6, r7, r8, r9⟩ := ten_cells R
  have y1 := lt_heap R
  replace R := Lib.hid R
  have hne : w.heap.size ≠ b := by omega
  clear IB0
  go_upto_region 2 with (go_at_call 90; refine (putI_any B b _ _ _ _ IB.out (by omega) (Nat.le_trans hBw hB.size)).mono ?_; rintro e w2 ⟨rfl, h1, hb1, ha1⟩; have ST := Lib.hid (EnSt.first (W1 := W1) h1 hb1 ha1); obtain ⟨r0, r1, r2, r3, r4, r5, r6, r7, r8, r9⟩ := ten_cells (ST.out.2.2 _ _ _ _ hne (by decide) R.out); have SX := Lib.hid sz0;  clear IB h1 hb1 ha1)
  go_wp2_with (first | (go_at_call 47; refine (kind_any _ _).mono ?_; rintro e w' ⟨rfl, rfl⟩; rw [HK.out]) | (go_at_call 90; refine (putI_any B b _ _ _ _ (Or.inr ST.out.1) (EnSt.len hbs (Nat.le_trans SX.out (by decide))) (Nat.le_trans hBw (Nat.le_trans hB.size ST.out.size))).mono ?_; rintro e w2 ⟨rfl, h1, hb1, ha1⟩; replace ST := Lib.hid (ST.out.step h1 hb1 ha1); replace SX := Lib.hid (sz_st ST.out SX.out); obtain ⟨r0, r1, r2, r3, r4, r5, r6, r7, r8, r9⟩ := ten_cells (ST.out.2.2 _ _ _ _ hne (by decide) R.out);  clear h1 hb1 ha1))
  go_end0
  exact ⟨rfl, ST.out.1, HBB.out.trans ST.out.2.1, HAP.out.trans ST.out.2.2⟩

set_option maxRecDepth 100000 in
set_option maxHeartbeats 2000000 in
theorem eno_2 (B b : Nat) (bs : List Value) (i : In) (P : List Int) (A : Option Addr) (m c : Nat) (w : World) (hk : kindV i.op = 2) (hlt : b < w.heap.size) (h : Lib.IsBuilder 76 5 B b bs w) (hbs : bs.length ≤ 1000000000) (hBw : B ≤ w.heap.size)
    (hP : Row w B A P) (hm : P.length = m) (hok : i.ok w B) (hT : TgOk P i) (hk7 : kindV i.op = 7 → i.tn = i.kn) (hts : i.tn ≤ 100) : Calls Try.prog 61 #[.pointer (some ⟨b, 0, none⟩), (Value.agg #[Value.int IntKind.i64 (In.op i), Value.int IntKind.i64 (In.a i), Value.int IntKind.i64 (In.b i), Value.int IntKind.i64 (In.t i), Value.slice (In.kA i) (In.kn i) (In.kc i), Value.slice (In.tA i) (In.tn i) (In.tc i), Value.string (In.r1 i), Value.string (In.r2 i), Value.string (In.r3 i), Value.string (In.s i)]), .slice A m c] w (EnRet w B b bs (opB P i)) := by
  have hS : opB P i = opK 2 P i := by unfold opB; rw [hk]
  rw [hS]
  have HK := Lib.hid hk
  have hB : Below w.heap.size w w := Below.refl _ _
  have sz0 := putB_size i.op 1
  have HOK := Lib.hid hok
  have HP := Lib.hid hP
  skip
  have H7 := Lib.hid hk7
  clear hok hP hk7  hS hk hT
  have IB0 := Lib.hid h
  clear h
  go_enter Try.func61, Try.ntmps61
  go_upto_region 1 with fail
  have R := World.alloc_heap_new w (.cells #[.int .i64 i.op, .int .i64 i.a, .int .i64 i.b, .int .i64 i.t, .slice i.kA i.kn i.kc, .slice i.tA i.tn i.tc, .string i.r1, .string i.r2, .string i.r3, .string i.s] 26)
  have IB := Lib.hid (isb_keep IB0.out (below_al (Below.refl _ _) (.cells #[.int .i64 i.op, .int .i64 i.a, .int .i64 i.b, .int .i64 i.t, .slice i.kA i.kn i.kc, .slice i.tA i.tn i.tc, .string i.r1, .string i.r2, .string i.r3, .string i.s] 26)))
  have HBB := Lib.hid ((Below.refl B w).alloc hBw (.cells #[.int .i64 i.op, .int .i64 i.a, .int .i64 i.b, .int .i64 i.t, .slice i.kA i.kn i.kc, .slice i.tA i.tn i.tc, .string i.r1, .string i.r2, .string i.r3, .string i.s] 26))
  have HAP := Lib.hid (apart_below (b := b) (below_al (Below.refl w.heap.size w) (.cells #[.int .i64 i.op, .int .i64 i.a, .int .i64 i.b, .int .i64 i.t, .slice i.kA i.kn i.kc, .slice i.tA i.tn i.tc, .string i.r1, .string i.r2, .string i.r3, .string i.s] 26)))
  replace hB := below_al hB (.cells #[.int .i64 i.op, .int .i64 i.a, .int .i64 i.b, .int .i64 i.t, .slice i.kA i.kn i.kc, .slice i.tA i.tn i.tc, .string i.r1, .string i.r2, .string i.r3, .string i.s] 26)
  generalize w.alloc (.cells #[.int .i64 i.op, .int .i64 i.a, .int .i64 i.b, .int .i64 i.t, .slice i.kA i.kn i.kc, .slice i.tA i.tn i.tc, .string i.r1, .string i.r2, .string i.r3, .string i.s] 26) = W1 at R hB IB HBB HAP ⊢
  obtain ⟨r0, r1, r2, r3, r4, r5, r6, r7, r8, r9⟩ := ten_cells R
  have y1 := lt_heap R
  replace R := Lib.hid R
  have hne : w.heap.size ≠ b := by omega
  clear IB0
  go_upto_region 2 with (go_at_call 90; refine (putI_any B b _ _ _ _ IB.out (by omega) (Nat.le_trans hBw hB.size)).mono ?_; rintro e w2 ⟨rfl, h1, hb1, ha1⟩; have ST := Lib.hid (EnSt.first (W1 := W1) h1 hb1 ha1); obtain ⟨r0, r1, r2, r3, r4, r5, r6, r7, r8, r9⟩ := ten_cells (ST.out.2.2 _ _ _ _ hne (by decide) R.out); have SX := Lib.hid sz0;  clear IB h1 hb1 ha1)
  go_wp2_with (first | (go_at_call 47; refine (kind_any _ _).mono ?_; rintro e w' ⟨rfl, rfl⟩; rw [HK.out]) | (go_at_call 90; refine (putI_any B b _ _ _ _ (Or.inr ST.out.1) (EnSt.len hbs (Nat.le_trans SX.out (by decide))) (Nat.le_trans hBw (Nat.le_trans hB.size ST.out.size))).mono ?_; rintro e w2 ⟨rfl, h1, hb1, ha1⟩; replace ST := Lib.hid (ST.out.step h1 hb1 ha1); replace SX := Lib.hid (sz_st ST.out SX.out); obtain ⟨r0, r1, r2, r3, r4, r5, r6, r7, r8, r9⟩ := ten_cells (ST.out.2.2 _ _ _ _ hne (by decide) R.out);  clear h1 hb1 ha1))
  go_end0
  exact ⟨rfl, ST.out.1, HBB.out.trans ST.out.2.1, HAP.out.trans ST.out.2.2⟩

set_option maxRecDepth 100000 in
set_option maxHeartbeats 2000000 in
theorem eno_3 (B b : Nat) (bs : List Value) (i : In) (P : List Int) (A : Option Addr) (m c : Nat) (w : World) (hk : kindV i.op = 3) (hlt : b < w.heap.size) (h : Lib.IsBuilder 76 5 B b bs w) (hbs : bs.length ≤ 1000000000) (hBw : B ≤ w.heap.size)
    (hP : Row w B A P) (hm : P.length = m) (hok : i.ok w B) (hT : TgOk P i) (hk7 : kindV i.op = 7 → i.tn = i.kn) (hts : i.tn ≤ 100) : Calls Try.prog 61 #[.pointer (some ⟨b, 0, none⟩), (Value.agg #[Value.int IntKind.i64 (In.op i), Value.int IntKind.i64 (In.a i), Value.int IntKind.i64 (In.b i), Value.int IntKind.i64 (In.t i), Value.slice (In.kA i) (In.kn i) (In.kc i), Value.slice (In.tA i) (In.tn i) (In.tc i), Value.string (In.r1 i), Value.string (In.r2 i), Value.string (In.r3 i), Value.string (In.s i)]), .slice A m c] w (EnRet w B b bs (opB P i)) := by
  have hS : opB P i = opK 3 P i := by unfold opB; rw [hk]
  rw [hS]
  have HK := Lib.hid hk
  have hB : Below w.heap.size w w := Below.refl _ _
  have HT := Lib.hid hT
  have htg := hT i.t (by rw [tg_kind (by omega)]; exact List.mem_cons_self)
  obtain ⟨g, o, rfl, hgB, hc⟩ := hP.at (by omega)
  have hcp := hc i.t.toNat (by omega)
  rw [show P.getD i.t.toNat 0 = plN P i.t from rfl] at hcp
  have ht0 : (0 : Int) ≤ i.t := htg.1
  have ht1 : i.t < (m : Int) := by omega
  obtain ⟨z, hz⟩ : ∃ z, plN P i.t = z := ⟨_, rfl⟩
  rw [hz] at hcp
  have HZ := Lib.hid hz
  clear hz htg
  have sz0 := putB_size i.op 1
  have HOK := Lib.hid hok
  have HP := Lib.hid hP
  have HC := Lib.hid hc
  have H7 := Lib.hid hk7
  clear hok hP hk7 hc hS hk hT
  have IB0 := Lib.hid h
  clear h
  go_enter Try.func61, Try.ntmps61
  go_upto_region 1 with fail
  have R := World.alloc_heap_new w (.cells #[.int .i64 i.op, .int .i64 i.a, .int .i64 i.b, .int .i64 i.t, .slice i.kA i.kn i.kc, .slice i.tA i.tn i.tc, .string i.r1, .string i.r2, .string i.r3, .string i.s] 26)
  have IB := Lib.hid (isb_keep IB0.out (below_al (Below.refl _ _) (.cells #[.int .i64 i.op, .int .i64 i.a, .int .i64 i.b, .int .i64 i.t, .slice i.kA i.kn i.kc, .slice i.tA i.tn i.tc, .string i.r1, .string i.r2, .string i.r3, .string i.s] 26)))
  have HBB := Lib.hid ((Below.refl B w).alloc hBw (.cells #[.int .i64 i.op, .int .i64 i.a, .int .i64 i.b, .int .i64 i.t, .slice i.kA i.kn i.kc, .slice i.tA i.tn i.tc, .string i.r1, .string i.r2, .string i.r3, .string i.s] 26))
  have HAP := Lib.hid (apart_below (b := b) (below_al (Below.refl w.heap.size w) (.cells #[.int .i64 i.op, .int .i64 i.a, .int .i64 i.b, .int .i64 i.t, .slice i.kA i.kn i.kc, .slice i.tA i.tn i.tc, .string i.r1, .string i.r2, .string i.r3, .string i.s] 26)))
  replace hB := below_al hB (.cells #[.int .i64 i.op, .int .i64 i.a, .int .i64 i.b, .int .i64 i.t, .slice i.kA i.kn i.kc, .slice i.tA i.tn i.tc, .string i.r1, .string i.r2, .string i.r3, .string i.s] 26)
  generalize w.alloc (.cells #[.int .i64 i.op, .int .i64 i.a, .int .i64 i.b, .int .i64 i.t, .slice i.kA i.kn i.kc, .slice i.tA i.tn i.tc, .string i.r1, .string i.r2, .string i.r3, .string i.s] 26) = W1 at R hB IB HBB HAP ⊢
  obtain ⟨r0, r1, r2, r3, r4, r5, r6, r7, r8, r9⟩ := ten_cells R
  have y1 := lt_heap R
  replace R := Lib.hid R
  have hne : w.heap.size ≠ b := by omega
  clear IB0
  replace hcp := (HBB.out.cell (p := ⟨g, _, none⟩) hgB).trans hcp
  go_upto_region 2 with (go_at_call 90; refine (putI_any B b _ _ _ _ IB.out (by omega) (Nat.le_trans hBw hB.size)).mono ?_; rintro e w2 ⟨rfl, h1, hb1, ha1⟩; have ST := Lib.hid (EnSt.first (W1 := W1) h1 hb1 ha1); obtain ⟨r0, r1, r2, r3, r4, r5, r6, r7, r8, r9⟩ := ten_cells (ST.out.2.2 _ _ _ _ hne (by decide) R.out); have SX := Lib.hid sz0; replace hcp := (hb1.cell (p := ⟨g, _, none⟩) hgB).trans hcp; clear IB h1 hb1 ha1)
  go_wp2_with (first | (go_at_call 47; refine (kind_any _ _).mono ?_; rintro e w' ⟨rfl, rfl⟩; rw [HK.out]) | (go_at_call 90; refine (putI_any B b _ _ _ _ (Or.inr ST.out.1) (EnSt.len hbs (Nat.le_trans SX.out (by decide))) (Nat.le_trans hBw (Nat.le_trans hB.size ST.out.size))).mono ?_; rintro e w2 ⟨rfl, h1, hb1, ha1⟩; replace ST := Lib.hid (ST.out.step h1 hb1 ha1); replace SX := Lib.hid (sz_st ST.out SX.out); obtain ⟨r0, r1, r2, r3, r4, r5, r6, r7, r8, r9⟩ := ten_cells (ST.out.2.2 _ _ _ _ hne (by decide) R.out); replace hcp := (hb1.cell (p := ⟨g, _, none⟩) hgB).trans hcp; clear h1 hb1 ha1))
  have hz := HZ.out
  subst hz
  go_end0
  exact ⟨rfl, ST.out.1, HBB.out.trans ST.out.2.1, HAP.out.trans ST.out.2.2⟩

set_option maxRecDepth 100000 in
set_option maxHeartbeats 2000000 in
theorem eno_4 (B b : Nat) (bs : List Value) (i : In) (P : List Int) (A : Option Addr) (m c : Nat) (w : World) (hk : kindV i.op = 4) (hlt : b < w.heap.size) (h : Lib.IsBuilder 76 5 B b bs w) (hbs : bs.length ≤ 1000000000) (hBw : B ≤ w.heap.size)
    (hP : Row w B A P) (hm : P.length = m) (hok : i.ok w B) (hT : TgOk P i) (hk7 : kindV i.op = 7 → i.tn = i.kn) (hts : i.tn ≤ 100) : Calls Try.prog 61 #[.pointer (some ⟨b, 0, none⟩), (Value.agg #[Value.int IntKind.i64 (In.op i), Value.int IntKind.i64 (In.a i), Value.int IntKind.i64 (In.b i), Value.int IntKind.i64 (In.t i), Value.slice (In.kA i) (In.kn i) (In.kc i), Value.slice (In.tA i) (In.tn i) (In.tc i), Value.string (In.r1 i), Value.string (In.r2 i), Value.string (In.r3 i), Value.string (In.s i)]), .slice A m c] w (EnRet w B b bs (opB P i)) := by
  have hS : opB P i = opK 4 P i := by unfold opB; rw [hk]
  rw [hS]
  have HK := Lib.hid hk
  have hB : Below w.heap.size w w := Below.refl _ _
  have sz0 := putB_size i.op 1
  have HOK := Lib.hid hok
  have HP := Lib.hid hP
  skip
  have H7 := Lib.hid hk7
  clear hok hP hk7  hS hk hT
  have IB0 := Lib.hid h
  clear h
  go_enter Try.func61, Try.ntmps61
  go_upto_region 1 with fail
  have R := World.alloc_heap_new w (.cells #[.int .i64 i.op, .int .i64 i.a, .int .i64 i.b, .int .i64 i.t, .slice i.kA i.kn i.kc, .slice i.tA i.tn i.tc, .string i.r1, .string i.r2, .string i.r3, .string i.s] 26)
  have IB := Lib.hid (isb_keep IB0.out (below_al (Below.refl _ _) (.cells #[.int .i64 i.op, .int .i64 i.a, .int .i64 i.b, .int .i64 i.t, .slice i.kA i.kn i.kc, .slice i.tA i.tn i.tc, .string i.r1, .string i.r2, .string i.r3, .string i.s] 26)))
  have HBB := Lib.hid ((Below.refl B w).alloc hBw (.cells #[.int .i64 i.op, .int .i64 i.a, .int .i64 i.b, .int .i64 i.t, .slice i.kA i.kn i.kc, .slice i.tA i.tn i.tc, .string i.r1, .string i.r2, .string i.r3, .string i.s] 26))
  have HAP := Lib.hid (apart_below (b := b) (below_al (Below.refl w.heap.size w) (.cells #[.int .i64 i.op, .int .i64 i.a, .int .i64 i.b, .int .i64 i.t, .slice i.kA i.kn i.kc, .slice i.tA i.tn i.tc, .string i.r1, .string i.r2, .string i.r3, .string i.s] 26)))
  replace hB := below_al hB (.cells #[.int .i64 i.op, .int .i64 i.a, .int .i64 i.b, .int .i64 i.t, .slice i.kA i.kn i.kc, .slice i.tA i.tn i.tc, .string i.r1, .string i.r2, .string i.r3, .string i.s] 26)
  generalize w.alloc (.cells #[.int .i64 i.op, .int .i64 i.a, .int .i64 i.b, .int .i64 i.t, .slice i.kA i.kn i.kc, .slice i.tA i.tn i.tc, .string i.r1, .string i.r2, .string i.r3, .string i.s] 26) = W1 at R hB IB HBB HAP ⊢
  obtain ⟨r0, r1, r2, r3, r4, r5, r6, r7, r8, r9⟩ := ten_cells R
  have y1 := lt_heap R
  replace R := Lib.hid R
  have hne : w.heap.size ≠ b := by omega
  clear IB0
  go_upto_region 2 with (go_at_call 90; refine (putI_any B b _ _ _ _ IB.out (by omega) (Nat.le_trans hBw hB.size)).mono ?_; rintro e w2 ⟨rfl, h1, hb1, ha1⟩; have ST := Lib.hid (EnSt.first (W1 := W1) h1 hb1 ha1); obtain ⟨r0, r1, r2, r3, r4, r5, r6, r7, r8, r9⟩ := ten_cells (ST.out.2.2 _ _ _ _ hne (by decide) R.out); have SX := Lib.hid sz0;  clear IB h1 hb1 ha1)
  go_wp2_with (first | (go_at_call 47; refine (kind_any _ _).mono ?_; rintro e w' ⟨rfl, rfl⟩; rw [HK.out]) | (go_at_call 90; refine (putI_any B b _ _ _ _ (Or.inr ST.out.1) (EnSt.len hbs (Nat.le_trans SX.out (by decide))) (Nat.le_trans hBw (Nat.le_trans hB.size ST.out.size))).mono ?_; rintro e w2 ⟨rfl, h1, hb1, ha1⟩; replace ST := Lib.hid (ST.out.step h1 hb1 ha1); replace SX := Lib.hid (sz_st ST.out SX.out); obtain ⟨r0, r1, r2, r3, r4, r5, r6, r7, r8, r9⟩ := ten_cells (ST.out.2.2 _ _ _ _ hne (by decide) R.out);  clear h1 hb1 ha1))
  go_end0
  exact ⟨rfl, ST.out.1, HBB.out.trans ST.out.2.1, HAP.out.trans ST.out.2.2⟩

set_option maxRecDepth 100000 in
set_option maxHeartbeats 2000000 in
theorem eno_5 (B b : Nat) (bs : List Value) (i : In) (P : List Int) (A : Option Addr) (m c : Nat) (w : World) (hk : kindV i.op = 5) (hlt : b < w.heap.size) (h : Lib.IsBuilder 76 5 B b bs w) (hbs : bs.length ≤ 1000000000) (hBw : B ≤ w.heap.size)
    (hP : Row w B A P) (hm : P.length = m) (hok : i.ok w B) (hT : TgOk P i) (hk7 : kindV i.op = 7 → i.tn = i.kn) (hts : i.tn ≤ 100) : Calls Try.prog 61 #[.pointer (some ⟨b, 0, none⟩), (Value.agg #[Value.int IntKind.i64 (In.op i), Value.int IntKind.i64 (In.a i), Value.int IntKind.i64 (In.b i), Value.int IntKind.i64 (In.t i), Value.slice (In.kA i) (In.kn i) (In.kc i), Value.slice (In.tA i) (In.tn i) (In.tc i), Value.string (In.r1 i), Value.string (In.r2 i), Value.string (In.r3 i), Value.string (In.s i)]), .slice A m c] w (EnRet w B b bs (opB P i)) := by
  have hS : opB P i = opK 5 P i := by unfold opB; rw [hk]
  rw [hS]
  have HK := Lib.hid hk
  have hB : Below w.heap.size w w := Below.refl _ _
  have sz0 := putB_size i.op 1
  have HOK := Lib.hid hok
  have HP := Lib.hid hP
  skip
  have H7 := Lib.hid hk7
  clear hok hP hk7  hS hk hT
  have IB0 := Lib.hid h
  clear h
  go_enter Try.func61, Try.ntmps61
  go_upto_region 1 with fail
  have R := World.alloc_heap_new w (.cells #[.int .i64 i.op, .int .i64 i.a, .int .i64 i.b, .int .i64 i.t, .slice i.kA i.kn i.kc, .slice i.tA i.tn i.tc, .string i.r1, .string i.r2, .string i.r3, .string i.s] 26)
  have IB := Lib.hid (isb_keep IB0.out (below_al (Below.refl _ _) (.cells #[.int .i64 i.op, .int .i64 i.a, .int .i64 i.b, .int .i64 i.t, .slice i.kA i.kn i.kc, .slice i.tA i.tn i.tc, .string i.r1, .string i.r2, .string i.r3, .string i.s] 26)))
  have HBB := Lib.hid ((Below.refl B w).alloc hBw (.cells #[.int .i64 i.op, .int .i64 i.a, .int .i64 i.b, .int .i64 i.t, .slice i.kA i.kn i.kc, .slice i.tA i.tn i.tc, .string i.r1, .string i.r2, .string i.r3, .string i.s] 26))
  have HAP := Lib.hid (apart_below (b := b) (below_al (Below.refl w.heap.size w) (.cells #[.int .i64 i.op, .int .i64 i.a, .int .i64 i.b, .int .i64 i.t, .slice i.kA i.kn i.kc, .slice i.tA i.tn i.tc, .string i.r1, .string i.r2, .string i.r3, .string i.s] 26)))
  replace hB := below_al hB (.cells #[.int .i64 i.op, .int .i64 i.a, .int .i64 i.b, .int .i64 i.t, .slice i.kA i.kn i.kc, .slice i.tA i.tn i.tc, .string i.r1, .string i.r2, .string i.r3, .string i.s] 26)
  generalize w.alloc (.cells #[.int .i64 i.op, .int .i64 i.a, .int .i64 i.b, .int .i64 i.t, .slice i.kA i.kn i.kc, .slice i.tA i.tn i.tc, .string i.r1, .string i.r2, .string i.r3, .string i.s] 26) = W1 at R hB IB HBB HAP ⊢
  obtain ⟨r0, r1, r2, r3, r4, r5, r6, r7, r8, r9⟩ := ten_cells R
  have y1 := lt_heap R
  replace R := Lib.hid R
  have hne : w.heap.size ≠ b := by omega
  clear IB0
  go_upto_region 2 with (go_at_call 90; refine (putI_any B b _ _ _ _ IB.out (by omega) (Nat.le_trans hBw hB.size)).mono ?_; rintro e w2 ⟨rfl, h1, hb1, ha1⟩; have ST := Lib.hid (EnSt.first (W1 := W1) h1 hb1 ha1); obtain ⟨r0, r1, r2, r3, r4, r5, r6, r7, r8, r9⟩ := ten_cells (ST.out.2.2 _ _ _ _ hne (by decide) R.out); have SX := Lib.hid sz0;  clear IB h1 hb1 ha1)
  go_wp2_with (first | (go_at_call 47; refine (kind_any _ _).mono ?_; rintro e w' ⟨rfl, rfl⟩; rw [HK.out]) | (go_at_call 90; refine (putI_any B b _ _ _ _ (Or.inr ST.out.1) (EnSt.len hbs (Nat.le_trans SX.out (by decide))) (Nat.le_trans hBw (Nat.le_trans hB.size ST.out.size))).mono ?_; rintro e w2 ⟨rfl, h1, hb1, ha1⟩; replace ST := Lib.hid (ST.out.step h1 hb1 ha1); replace SX := Lib.hid (sz_st ST.out SX.out); obtain ⟨r0, r1, r2, r3, r4, r5, r6, r7, r8, r9⟩ := ten_cells (ST.out.2.2 _ _ _ _ hne (by decide) R.out);  clear h1 hb1 ha1))
  go_end0
  exact ⟨rfl, ST.out.1, HBB.out.trans ST.out.2.1, HAP.out.trans ST.out.2.2⟩

set_option maxRecDepth 100000 in
set_option maxHeartbeats 2000000 in
theorem eno_6 (B b : Nat) (bs : List Value) (i : In) (P : List Int) (A : Option Addr) (m c : Nat) (w : World) (hk : kindV i.op = 6) (hlt : b < w.heap.size) (h : Lib.IsBuilder 76 5 B b bs w) (hbs : bs.length ≤ 1000000000) (hBw : B ≤ w.heap.size)
    (hP : Row w B A P) (hm : P.length = m) (hok : i.ok w B) (hT : TgOk P i) (hk7 : kindV i.op = 7 → i.tn = i.kn) (hts : i.tn ≤ 100) : Calls Try.prog 61 #[.pointer (some ⟨b, 0, none⟩), (Value.agg #[Value.int IntKind.i64 (In.op i), Value.int IntKind.i64 (In.a i), Value.int IntKind.i64 (In.b i), Value.int IntKind.i64 (In.t i), Value.slice (In.kA i) (In.kn i) (In.kc i), Value.slice (In.tA i) (In.tn i) (In.tc i), Value.string (In.r1 i), Value.string (In.r2 i), Value.string (In.r3 i), Value.string (In.s i)]), .slice A m c] w (EnRet w B b bs (opB P i)) := by
  have hS : opB P i = opK 6 P i := by unfold opB; rw [hk]
  rw [hS]
  have HK := Lib.hid hk
  have hB : Below w.heap.size w w := Below.refl _ _
  have HT := Lib.hid hT
  have htg := hT i.t (by rw [tg_kind (by omega)]; exact List.mem_cons_self)
  obtain ⟨g, o, rfl, hgB, hc⟩ := hP.at (by omega)
  have hcp := hc i.t.toNat (by omega)
  rw [show P.getD i.t.toNat 0 = plN P i.t from rfl] at hcp
  have ht0 : (0 : Int) ≤ i.t := htg.1
  have ht1 : i.t < (m : Int) := by omega
  obtain ⟨z, hz⟩ : ∃ z, plN P i.t = z := ⟨_, rfl⟩
  rw [hz] at hcp
  have HZ := Lib.hid hz
  clear hz htg
  have sz0 := putB_size i.op 1
  have HOK := Lib.hid hok
  have HP := Lib.hid hP
  have HC := Lib.hid hc
  have H7 := Lib.hid hk7
  clear hok hP hk7 hc hS hk hT
  have IB0 := Lib.hid h
  clear h
  go_enter Try.func61, Try.ntmps61
  go_upto_region 1 with fail
  have R := World.alloc_heap_new w (.cells #[.int .i64 i.op, .int .i64 i.a, .int .i64 i.b, .int .i64 i.t, .slice i.kA i.kn i.kc, .slice i.tA i.tn i.tc, .string i.r1, .string i.r2, .string i.r3, .string i.s] 26)
  have IB := Lib.hid (isb_keep IB0.out (below_al (Below.refl _ _) (.cells #[.int .i64 i.op, .int .i64 i.a, .int .i64 i.b, .int .i64 i.t, .slice i.kA i.kn i.kc, .slice i.tA i.tn i.tc, .string i.r1, .string i.r2, .string i.r3, .string i.s] 26)))
  have HBB := Lib.hid ((Below.refl B w).alloc hBw (.cells #[.int .i64 i.op, .int .i64 i.a, .int .i64 i.b, .int .i64 i.t, .slice i.kA i.kn i.kc, .slice i.tA i.tn i.tc, .string i.r1, .string i.r2, .string i.r3, .string i.s] 26))
  have HAP := Lib.hid (apart_below (b := b) (below_al (Below.refl w.heap.size w) (.cells #[.int .i64 i.op, .int .i64 i.a, .int .i64 i.b, .int .i64 i.t, .slice i.kA i.kn i.kc, .slice i.tA i.tn i.tc, .string i.r1, .string i.r2, .string i.r3, .string i.s] 26)))
  replace hB := below_al hB (.cells #[.int .i64 i.op, .int .i64 i.a, .int .i64 i.b, .int .i64 i.t, .slice i.kA i.kn i.kc, .slice i.tA i.tn i.tc, .string i.r1, .string i.r2, .string i.r3, .string i.s] 26)
  generalize w.alloc (.cells #[.int .i64 i.op, .int .i64 i.a, .int .i64 i.b, .int .i64 i.t, .slice i.kA i.kn i.kc, .slice i.tA i.tn i.tc, .string i.r1, .string i.r2, .string i.r3, .string i.s] 26) = W1 at R hB IB HBB HAP ⊢
  obtain ⟨r0, r1, r2, r3, r4, r5, r6, r7, r8, r9⟩ := ten_cells R
  have y1 := lt_heap R
  replace R := Lib.hid R
  have hne : w.heap.size ≠ b := by omega
  clear IB0
  replace hcp := (HBB.out.cell (p := ⟨g, _, none⟩) hgB).trans hcp
  obtain ⟨X, hX⟩ : ∃ X, i.tA = X := ⟨_, rfl⟩
  have HXR := Lib.hid (show Row w B X i.ts by rw [← hX]; exact HOK.out.2.2.2.2.2.2.2)
  obtain ⟨Y, hY⟩ : ∃ Y, i.kA = Y := ⟨_, rfl⟩
  have HYR := Lib.hid (show Row w B Y i.ks by rw [← hY]; exact HOK.out.2.2.2.1)
  have HL := Lib.hid (show i.ts.length = i.tn ∧ i.ks.length = i.kn from ⟨HOK.out.2.2.2.2.1, HOK.out.1⟩)
  skip
  skip
  skip
  have hkb : i.tn ≤ 100 := by omega
  go_upto_region 2 with (go_at_call 90; refine (putI_any B b _ _ _ _ IB.out (by omega) (Nat.le_trans hBw hB.size)).mono ?_; rintro e w2 ⟨rfl, h1, hb1, ha1⟩; have ST := Lib.hid (EnSt.first (W1 := W1) h1 hb1 ha1); obtain ⟨r0, r1, r2, r3, r4, r5, r6, r7, r8, r9⟩ := ten_cells (ST.out.2.2 _ _ _ _ hne (by decide) R.out); have SX := Lib.hid sz0; replace hcp := (hb1.cell (p := ⟨g, _, none⟩) hgB).trans hcp; clear IB h1 hb1 ha1)
  go_wp2_with (first | (go_at_call 47; refine (kind_any _ _).mono ?_; rintro e w' ⟨rfl, rfl⟩; rw [HK.out]) | (go_at_call 90; refine (putI_any B b _ _ _ _ (Or.inr ST.out.1) (EnSt.len hbs (Nat.le_trans SX.out (by decide))) (Nat.le_trans hBw (Nat.le_trans hB.size ST.out.size))).mono ?_; rintro e w2 ⟨rfl, h1, hb1, ha1⟩; replace ST := Lib.hid (ST.out.step h1 hb1 ha1); replace SX := Lib.hid (sz_st ST.out SX.out); obtain ⟨r0, r1, r2, r3, r4, r5, r6, r7, r8, r9⟩ := ten_cells (ST.out.2.2 _ _ _ _ hne (by decide) R.out); replace hcp := (hb1.cell (p := ⟨g, _, none⟩) hgB).trans hcp; clear h1 hb1 ha1))
  have ST0 : EnSt W1 w2 B b bs (tsF P (st6 P i) (i.ts.take 0)) := by
    have := ST.out
    rw [← HZ.out] at this
    exact this
  clear ST SX
  have ST := Lib.hid ST0
  clear ST0 r0 r1 r2 r3 r4 r5 r6 r7 r8 r9 hcp
  go_loopw [70] (fun v wr => ∃ j : Nat, j ≤ i.tn ∧ v = .int .i64 j ∧ EnSt W1 wr B b bs (tsF P (st6 P i) (i.ts.take j))) (fun v _ => i.tn - (intOf v).toNat)
  case atStart => exact ⟨0, Nat.zero_le _, rfl, ST.out⟩
  case round =>
    clear ST
    obtain ⟨j, hj, rfl, hst⟩ := hrel
    have ST := Lib.hid hst
    clear hst
    obtain ⟨r0, r1, r2, r3, r4, r5, r6, r7, r8, r9⟩ := ten_cells (ST.out.2.2 _ _ _ _ hne (by decide) R.out)
    by_cases hlt : j < i.tn
    · have up : ∀ g o v, g < B → w.cell? ⟨g, o, none⟩ = some v → wr.cell? ⟨g, o, none⟩ = some v := fun g o v hg h => (ST.out.2.1.cell (p := ⟨g, o, none⟩) hg).trans ((HBB.out.cell (p := ⟨g, o, none⟩) hg).trans h)
      obtain ⟨g2, o2, rfl, hg2, hc2⟩ := HXR.out.at (by have := HL.out.1; omega)
      have hcj := up _ _ _ hg2 (hc2 j (by have := HL.out.1; omega))
      obtain ⟨x, hx⟩ : ∃ x, i.ts.getD j 0 = x := ⟨_, rfl⟩
      have hxm : i.ts[j]? = some x := by
        have hl : j < i.ts.length := by have := HL.out.1; omega
        rw [← hx, List.getD_eq_getElem?_getD, List.getElem?_eq_getElem hl]; rfl
      have hxb := HT.out x (by rw [tg_kind (by have := HK.out; omega)]; exact List.mem_cons_of_mem _ (List.mem_of_getElem? hxm))
      rw [hx] at hcj
      have hcp := up _ _ _ hgB (HC.out x.toNat (by omega))
      rw [show P.getD x.toNat 0 = plN P x from rfl] at hcp
      obtain ⟨y, hy⟩ : ∃ y, plN P x = y := ⟨_, rfl⟩
      rw [hy] at hcp
      have hx0 : (0 : Int) ≤ x := hxb.1
      have hx1 : x < (m : Int) := by omega
      have HXY := Lib.hid (And.intro hxm hy)
      have hj0 : (0 : Int) ≤ (j : Int) := by omega
      have hj1 : (j : Int) < (i.tn : Int) := by omega
      have SX := Lib.hid (show (tsF P (st6 P i) (i.ts.take j)).size ≤ 3000 by
        have h1 := tsF_size P (i.ts.take j) (st6 P i)
        have h2 := st6_size P i
        rw [List.length_take] at h1
        omega)
      clear up hc2 hx hxm hxb hy
      go_wp2_with (go_at_call 90; refine (putI_any B b _ _ _ _ (Or.inr ST.out.1) (EnSt.len hbs (Nat.le_trans SX.out (by decide))) (Nat.le_trans hBw (Nat.le_trans hB.size ST.out.size))).mono ?_; rintro e w2 ⟨rfl, h1, hb1, ha1⟩; replace ST := Lib.hid (ST.out.step h1 hb1 ha1); replace SX := Lib.hid (sz_st ST.out SX.out); obtain ⟨r0, r1, r2, r3, r4, r5, r6, r7, r8, r9⟩ := ten_cells (ST.out.2.2 _ _ _ _ hne (by decide) R.out);  clear h1 hb1 ha1)
      go_roundw
      case rel =>
        refine ⟨j + 1, hlt, by go_num, ?_⟩
        have := ST.out
        rw [← HXY.out.2] at this
        rw [take_snoc HXY.out.1, tsF_snoc]
        exact this
      case measure => simp [intOf]; omega
    · obtain ⟨rfl⟩ : i.tn = j := by omega
      have hfin : tsF P (st6 P i) (i.ts.take i.tn) = tsF P (st6 P i) i.ts := by rw [List.take_of_length_le (by have := HL.out.1; omega)]
      have ST2 := ST.out
      rw [hfin] at ST2
      clear hfin
      go_wp2
      go_end0
      exact ⟨rfl, ST2.1, HBB.out.trans ST2.2.1, HAP.out.trans ST2.2.2⟩

set_option maxRecDepth 100000 in
set_option maxHeartbeats 2000000 in
theorem eno_7 (B b : Nat) (bs : List Value) (i : In) (P : List Int) (A : Option Addr) (m c : Nat) (w : World) (hk : kindV i.op = 7) (hlt : b < w.heap.size) (h : Lib.IsBuilder 76 5 B b bs w) (hbs : bs.length ≤ 1000000000) (hBw : B ≤ w.heap.size)
    (hP : Row w B A P) (hm : P.length = m) (hok : i.ok w B) (hT : TgOk P i) (hk7 : kindV i.op = 7 → i.tn = i.kn) (hts : i.tn ≤ 100) : Calls Try.prog 61 #[.pointer (some ⟨b, 0, none⟩), (Value.agg #[Value.int IntKind.i64 (In.op i), Value.int IntKind.i64 (In.a i), Value.int IntKind.i64 (In.b i), Value.int IntKind.i64 (In.t i), Value.slice (In.kA i) (In.kn i) (In.kc i), Value.slice (In.tA i) (In.tn i) (In.tc i), Value.string (In.r1 i), Value.string (In.r2 i), Value.string (In.r3 i), Value.string (In.s i)]), .slice A m c] w (EnRet w B b bs (opB P i)) := by
  have hS : opB P i = opK 7 P i := by unfold opB; rw [hk]
  rw [hS]
  have HK := Lib.hid hk
  have hB : Below w.heap.size w w := Below.refl _ _
  have HT := Lib.hid hT
  have htg := hT i.t (by rw [tg_kind (by omega)]; exact List.mem_cons_self)
  obtain ⟨g, o, rfl, hgB, hc⟩ := hP.at (by omega)
  have hcp := hc i.t.toNat (by omega)
  rw [show P.getD i.t.toNat 0 = plN P i.t from rfl] at hcp
  have ht0 : (0 : Int) ≤ i.t := htg.1
  have ht1 : i.t < (m : Int) := by omega
  obtain ⟨z, hz⟩ : ∃ z, plN P i.t = z := ⟨_, rfl⟩
  rw [hz] at hcp
  have HZ := Lib.hid hz
  clear hz htg
  have sz0 := putB_size i.op 1
  have HOK := Lib.hid hok
  have HP := Lib.hid hP
  have HC := Lib.hid hc
  have H7 := Lib.hid hk7
  clear hok hP hk7 hc hS hk hT
  have IB0 := Lib.hid h
  clear h
  go_enter Try.func61, Try.ntmps61
  go_upto_region 1 with fail
  have R := World.alloc_heap_new w (.cells #[.int .i64 i.op, .int .i64 i.a, .int .i64 i.b, .int .i64 i.t, .slice i.kA i.kn i.kc, .slice i.tA i.tn i.tc, .string i.r1, .string i.r2, .string i.r3, .string i.s] 26)
  have IB := Lib.hid (isb_keep IB0.out (below_al (Below.refl _ _) (.cells #[.int .i64 i.op, .int .i64 i.a, .int .i64 i.b, .int .i64 i.t, .slice i.kA i.kn i.kc, .slice i.tA i.tn i.tc, .string i.r1, .string i.r2, .string i.r3, .string i.s] 26)))
  have HBB := Lib.hid ((Below.refl B w).alloc hBw (.cells #[.int .i64 i.op, .int .i64 i.a, .int .i64 i.b, .int .i64 i.t, .slice i.kA i.kn i.kc, .slice i.tA i.tn i.tc, .string i.r1, .string i.r2, .string i.r3, .string i.s] 26))
  have HAP := Lib.hid (apart_below (b := b) (below_al (Below.refl w.heap.size w) (.cells #[.int .i64 i.op, .int .i64 i.a, .int .i64 i.b, .int .i64 i.t, .slice i.kA i.kn i.kc, .slice i.tA i.tn i.tc, .string i.r1, .string i.r2, .string i.r3, .string i.s] 26)))
  replace hB := below_al hB (.cells #[.int .i64 i.op, .int .i64 i.a, .int .i64 i.b, .int .i64 i.t, .slice i.kA i.kn i.kc, .slice i.tA i.tn i.tc, .string i.r1, .string i.r2, .string i.r3, .string i.s] 26)
  generalize w.alloc (.cells #[.int .i64 i.op, .int .i64 i.a, .int .i64 i.b, .int .i64 i.t, .slice i.kA i.kn i.kc, .slice i.tA i.tn i.tc, .string i.r1, .string i.r2, .string i.r3, .string i.s] 26) = W1 at R hB IB HBB HAP ⊢
  obtain ⟨r0, r1, r2, r3, r4, r5, r6, r7, r8, r9⟩ := ten_cells R
  have y1 := lt_heap R
  replace R := Lib.hid R
  have hne : w.heap.size ≠ b := by omega
  clear IB0
  replace hcp := (HBB.out.cell (p := ⟨g, _, none⟩) hgB).trans hcp
  obtain ⟨X, hX⟩ : ∃ X, i.tA = X := ⟨_, rfl⟩
  have HXR := Lib.hid (show Row w B X i.ts by rw [← hX]; exact HOK.out.2.2.2.2.2.2.2)
  obtain ⟨Y, hY⟩ : ∃ Y, i.kA = Y := ⟨_, rfl⟩
  have HYR := Lib.hid (show Row w B Y i.ks by rw [← hY]; exact HOK.out.2.2.2.1)
  have HL := Lib.hid (show i.ts.length = i.tn ∧ i.ks.length = i.kn from ⟨HOK.out.2.2.2.2.1, HOK.out.1⟩)
  have h7 : i.tn = i.kn := H7.out HK.out
  have HT7 := Lib.hid h7
  clear h7
  have hkb : i.kn ≤ 100 := by have := HT7.out; omega
  go_upto_region 2 with (go_at_call 90; refine (putI_any B b _ _ _ _ IB.out (by omega) (Nat.le_trans hBw hB.size)).mono ?_; rintro e w2 ⟨rfl, h1, hb1, ha1⟩; have ST := Lib.hid (EnSt.first (W1 := W1) h1 hb1 ha1); obtain ⟨r0, r1, r2, r3, r4, r5, r6, r7, r8, r9⟩ := ten_cells (ST.out.2.2 _ _ _ _ hne (by decide) R.out); have SX := Lib.hid sz0; replace hcp := (hb1.cell (p := ⟨g, _, none⟩) hgB).trans hcp; clear IB h1 hb1 ha1)
  go_wp2_with (first | (go_at_call 47; refine (kind_any _ _).mono ?_; rintro e w' ⟨rfl, rfl⟩; rw [HK.out]) | (go_at_call 90; refine (putI_any B b _ _ _ _ (Or.inr ST.out.1) (EnSt.len hbs (Nat.le_trans SX.out (by decide))) (Nat.le_trans hBw (Nat.le_trans hB.size ST.out.size))).mono ?_; rintro e w2 ⟨rfl, h1, hb1, ha1⟩; replace ST := Lib.hid (ST.out.step h1 hb1 ha1); replace SX := Lib.hid (sz_st ST.out SX.out); obtain ⟨r0, r1, r2, r3, r4, r5, r6, r7, r8, r9⟩ := ten_cells (ST.out.2.2 _ _ _ _ hne (by decide) R.out); replace hcp := (hb1.cell (p := ⟨g, _, none⟩) hgB).trans hcp; clear h1 hb1 ha1))
  have ST0 : EnSt W1 w2 B b bs (ksF P (st7 P i) ((i.ks.zip i.ts).take 0)) := by
    have := ST.out
    rw [← HZ.out] at this
    exact this
  clear ST SX
  have ST := Lib.hid ST0
  clear ST0 r0 r1 r2 r3 r4 r5 r6 r7 r8 r9 hcp
  go_loopw [98] (fun v wr => ∃ j : Nat, j ≤ i.kn ∧ v = .int .i64 j ∧ EnSt W1 wr B b bs (ksF P (st7 P i) ((i.ks.zip i.ts).take j))) (fun v _ => i.kn - (intOf v).toNat)
  case atStart => exact ⟨0, Nat.zero_le _, rfl, ST.out⟩
  case round =>
    clear ST
    obtain ⟨j, hj, rfl, hst⟩ := hrel
    have ST := Lib.hid hst
    clear hst
    obtain ⟨r0, r1, r2, r3, r4, r5, r6, r7, r8, r9⟩ := ten_cells (ST.out.2.2 _ _ _ _ hne (by decide) R.out)
    by_cases hlt : j < i.kn
    · have up : ∀ g o v, g < B → w.cell? ⟨g, o, none⟩ = some v → wr.cell? ⟨g, o, none⟩ = some v := fun g o v hg h => (ST.out.2.1.cell (p := ⟨g, o, none⟩) hg).trans ((HBB.out.cell (p := ⟨g, o, none⟩) hg).trans h)
      obtain ⟨g2, o2, rfl, hg2, hc2⟩ := HXR.out.at (by have := HL.out.1; have := HT7.out; omega)
      have hcj := up _ _ _ hg2 (hc2 j (by have := HL.out.1; have := HT7.out; omega))
      obtain ⟨x, hx⟩ : ∃ x, i.ts.getD j 0 = x := ⟨_, rfl⟩
      have hxm : i.ts[j]? = some x := by
        have hl : j < i.ts.length := by have := HL.out.1; have := HT7.out; omega
        rw [← hx, List.getD_eq_getElem?_getD, List.getElem?_eq_getElem hl]; rfl
      have hxb := HT.out x (by rw [tg_kind (by have := HK.out; omega)]; exact List.mem_cons_of_mem _ (List.mem_of_getElem? hxm))
      rw [hx] at hcj
      have hcp := up _ _ _ hgB (HC.out x.toNat (by omega))
      rw [show P.getD x.toNat 0 = plN P x from rfl] at hcp
      obtain ⟨y, hy⟩ : ∃ y, plN P x = y := ⟨_, rfl⟩
      rw [hy] at hcp
      have hx0 : (0 : Int) ≤ x := hxb.1
      have hx1 : x < (m : Int) := by omega
      have HXY := Lib.hid (And.intro hxm hy)
      obtain ⟨g3, o3, rfl, hg3, hc3⟩ := HYR.out.at (by have := HL.out.2; omega)
      have hck := up _ _ _ hg3 (hc3 j (by have := HL.out.2; omega))
      obtain ⟨q, hq⟩ : ∃ q, i.ks.getD j 0 = q := ⟨_, rfl⟩
      have hqm : i.ks[j]? = some q := by
        have hl : j < i.ks.length := by have := HL.out.2; omega
        rw [← hq, List.getD_eq_getElem?_getD, List.getElem?_eq_getElem hl]; rfl
      rw [hq] at hck
      have HQ := Lib.hid hqm
      have h7j : (j : Int) < (i.tn : Int) := by have := HT7.out; omega
      clear hc3 hq hqm
      have hj0 : (0 : Int) ≤ (j : Int) := by omega
      have hj1 : (j : Int) < (i.kn : Int) := by omega
      have SX := Lib.hid (show (ksF P (st7 P i) ((i.ks.zip i.ts).take j)).size ≤ 3000 by
        have h1 := ksF_size P ((i.ks.zip i.ts).take j) (st7 P i)
        have h2 := st7_size P i
        rw [List.length_take] at h1
        omega)
      clear up hc2 hx hxm hxb hy
      go_wp2_with (go_at_call 90; refine (putI_any B b _ _ _ _ (Or.inr ST.out.1) (EnSt.len hbs (Nat.le_trans SX.out (by decide))) (Nat.le_trans hBw (Nat.le_trans hB.size ST.out.size))).mono ?_; rintro e w2 ⟨rfl, h1, hb1, ha1⟩; replace ST := Lib.hid (ST.out.step h1 hb1 ha1); replace SX := Lib.hid (sz_st ST.out SX.out); obtain ⟨r0, r1, r2, r3, r4, r5, r6, r7, r8, r9⟩ := ten_cells (ST.out.2.2 _ _ _ _ hne (by decide) R.out); replace hcj := (hb1.cell (p := ⟨g2, _, none⟩) hg2).trans hcj; replace hcp := (hb1.cell (p := ⟨g, _, none⟩) hgB).trans hcp; clear h1 hb1 ha1)
      go_roundw
      case rel =>
        refine ⟨j + 1, hlt, by go_num, ?_⟩
        have := ST.out
        rw [← HXY.out.2] at this
        have hzp : (i.ks.zip i.ts)[j]? = some (q, x) := by rw [List.getElem?_zip_eq_some]; exact ⟨HQ.out, HXY.out.1⟩
        rw [take_snoc hzp, ksF_snoc]
        exact this
      case measure => simp [intOf]; omega
    · obtain ⟨rfl⟩ : i.kn = j := by omega
      have hfin : ksF P (st7 P i) ((i.ks.zip i.ts).take i.kn) = ksF P (st7 P i) (i.ks.zip i.ts) := by rw [List.take_of_length_le (by rw [List.length_zip]; have := HL.out.2; omega)]
      have ST2 := ST.out
      rw [hfin] at ST2
      clear hfin
      go_wp2
      go_end0
      exact ⟨rfl, ST2.1, HBB.out.trans ST2.2.1, HAP.out.trans ST2.2.2⟩

end Go.Proofs.Ytpghkdmljanncaa
