/- Layer 8: the reference's take. -/
import Derived.Test.YtpghkdmljanncaaInRd
import Derived.Test.YtpghkdmljanncaaInOwn
import Derived.Deep.RegionLaw
namespace Go.Proofs.Ytpghkdmljanncaa
open Go.ChangeShapes Go.WideShapes Go.ChangeAt Go.RowKit Go.PlainAid
set_option linter.unusedSimpArgs false
set_option linter.unusedVariables false

/-- a fresh instruction: its rows are the call's own, apart from one another -/
structure Fresh (w w' : World) (i : In) : Prop where
  bare : i.bare
  nz : i.nz
  ko : w'.ownsRow w.heap.size 3 1 (.slice i.kA i.kn i.kc) i.kn (Ri i.ks)
  to : w'.ownsRow w.heap.size 3 1 (.slice i.tA i.tn i.tc) i.tn (Ri i.ts)
  ap : (Value.slice i.kA i.kn i.kc).ownBlock = none ∨ (Value.slice i.kA i.kn i.kc).ownBlock ≠ (Value.slice i.tA i.tn i.tc).ownBlock
def TkRet (w : World) (s : ByteArray) (p op : Int) (e : Ending) (w' : World) : Prop :=
  ∃ i : In, e = .returned (Value.agg #[Value.int IntKind.i64 (In.op i), Value.int IntKind.i64 (In.a i), Value.int IntKind.i64 (In.b i), Value.int IntKind.i64 (In.t i), Value.slice (In.kA i) (In.kn i) (In.kc i), Value.slice (In.tA i) (In.tn i) (In.tc i), Value.string (In.r1 i), Value.string (In.r2 i), Value.string (In.r3 i), Value.string (In.s i)]) ∧ i.core = tkC s p op ∧ Fresh w w' i ∧ Below w.heap.size w w'
theorem inP_bare (op a b t : Int) : (inP op a b t).bare := ⟨rfl, rfl, rfl, rfl⟩
theorem fresh_inP (w w' : World) (op a b t : Int) : Fresh w w' (inP op a b t) :=
  ⟨inP_bare _ _ _ _, ⟨fun _ => rfl, fun _ => rfl⟩, World.ownsRow_nil _ _ _ _, World.ownsRow_nil _ _ _ _, Or.inl rfl⟩
theorem tk_simple {w w' : World} {s : ByteArray} {p op a b t : Int} (h : tkC s p op = ⟨op, a, b, t, [], []⟩) (hb : Below w.heap.size w w') : TkRet w s p op (.returned (.agg #[.int .i64 op, .int .i64 a, .int .i64 b, .int .i64 t, .slice none 0 0, .slice none 0 0, .string ⟨#[]⟩, .string ⟨#[]⟩, .string ⟨#[]⟩, .string ⟨#[]⟩])) w' :=
  ⟨inP op a b t, rfl, by rw [h]; rfl, fresh_inP _ _ _ _ _ _, hb⟩

set_option maxRecDepth 100000 in
set_option maxHeartbeats 1000000 in
theorem take8_0 (s : ByteArray) (p op : Int) (hs : s.size ≤ 1000000) (h0 : 0 ≤ p) (h1 : p ≤ s.size) (hk : kindV op = 0) (w : World) : Calls Try.prog 67 #[.string s, .int .i64 p, .int .i64 op] w (TkRet w s p op) := by
  have HT := Lib.hid (show tkC s p op = ⟨op, 0, 0, 0, [], []⟩ by unfold tkC; rw [hk]; rfl)
  have HK := Lib.hid hk
  have hB : Below w.heap.size w w := Below.refl _ _
  have hw1 : IntKind.i64.wrap (p + 1) = p + 1 := by simp [IntKind.wrap, IntKind.bits, IntKind.signed]; omega
  have hw2 : IntKind.i64.wrap (p + 2) = p + 2 := by simp [IntKind.wrap, IntKind.bits, IntKind.signed]; omega
  clear hk
  go_enter Try.func67, Try.ntmps67
  go_wp2_with (first | (go_at_call 51; refine (rkind_any _ _).mono ?_; rintro e w' ⟨rfl, rfl⟩; rw [HK.out]) | (go_at_call 95; refine (get_any s _ _ hs _).mono ?_; rintro e w' ⟨rfl, rfl⟩) | (go_at_call 94; refine (sgd_any s _ _ hs _).mono ?_; rintro e w' ⟨rfl, rfl⟩))
  refine bodyPost_ret (v := .agg #[.int .i64 op, .int .i64 (0), .int .i64 (0), .int .i64 (0), .slice none 0 0, .slice none 0 0, .string ⟨#[]⟩, .string ⟨#[]⟩, .string ⟨#[]⟩, .string ⟨#[]⟩]) ?_ rfl (tk_simple HT.out (by repeat (first | with_reducible exact hB | with_reducible exact Below.refl _ _ | with_reducible refine below_al ?_ _ | with_reducible refine below_st ?_ (by first | exact Nat.le_refl _ | exact Nat.le_add_right _ _ | (simp; omega)) _)))
  simp [results, Try.f67, go_sem, *]

set_option maxRecDepth 100000 in
set_option maxHeartbeats 1000000 in
theorem take8_1 (s : ByteArray) (p op : Int) (hs : s.size ≤ 1000000) (h0 : 0 ≤ p) (h1 : p ≤ s.size) (hk : kindV op = 1) (w : World) : Calls Try.prog 67 #[.string s, .int .i64 p, .int .i64 op] w (TkRet w s p op) := by
  have HT := Lib.hid (show tkC s p op = ⟨op, sigV s (p + 1) 1, 0, 0, [], []⟩ by unfold tkC; rw [hk]; rfl)
  have HK := Lib.hid hk
  have hB : Below w.heap.size w w := Below.refl _ _
  have hw1 : IntKind.i64.wrap (p + 1) = p + 1 := by simp [IntKind.wrap, IntKind.bits, IntKind.signed]; omega
  have hw2 : IntKind.i64.wrap (p + 2) = p + 2 := by simp [IntKind.wrap, IntKind.bits, IntKind.signed]; omega
  clear hk
  go_enter Try.func67, Try.ntmps67
  go_wp2_with (first | (go_at_call 51; refine (rkind_any _ _).mono ?_; rintro e w' ⟨rfl, rfl⟩; rw [HK.out]) | (go_at_call 95; refine (get_any s _ _ hs _).mono ?_; rintro e w' ⟨rfl, rfl⟩) | (go_at_call 94; refine (sgd_any s _ _ hs _).mono ?_; rintro e w' ⟨rfl, rfl⟩))
  refine bodyPost_ret (v := .agg #[.int .i64 op, .int .i64 (sigV s (p + 1) 1), .int .i64 (0), .int .i64 (0), .slice none 0 0, .slice none 0 0, .string ⟨#[]⟩, .string ⟨#[]⟩, .string ⟨#[]⟩, .string ⟨#[]⟩]) ?_ rfl (tk_simple HT.out (by repeat (first | with_reducible exact hB | with_reducible exact Below.refl _ _ | with_reducible refine below_al ?_ _ | with_reducible refine below_st ?_ (by first | exact Nat.le_refl _ | exact Nat.le_add_right _ _ | (simp; omega)) _)))
  simp [results, Try.f67, go_sem, *]

set_option maxRecDepth 100000 in
set_option maxHeartbeats 1000000 in
theorem take8_2 (s : ByteArray) (p op : Int) (hs : s.size ≤ 1000000) (h0 : 0 ≤ p) (h1 : p ≤ s.size) (hk : kindV op = 2) (w : World) : Calls Try.prog 67 #[.string s, .int .i64 p, .int .i64 op] w (TkRet w s p op) := by
  have HT := Lib.hid (show tkC s p op = ⟨op, unsV s (p + 1) 2, 0, 0, [], []⟩ by unfold tkC; rw [hk]; rfl)
  have HK := Lib.hid hk
  have hB : Below w.heap.size w w := Below.refl _ _
  have hw1 : IntKind.i64.wrap (p + 1) = p + 1 := by simp [IntKind.wrap, IntKind.bits, IntKind.signed]; omega
  have hw2 : IntKind.i64.wrap (p + 2) = p + 2 := by simp [IntKind.wrap, IntKind.bits, IntKind.signed]; omega
  clear hk
  go_enter Try.func67, Try.ntmps67
  go_wp2_with (first | (go_at_call 51; refine (rkind_any _ _).mono ?_; rintro e w' ⟨rfl, rfl⟩; rw [HK.out]) | (go_at_call 95; refine (get_any s _ _ hs _).mono ?_; rintro e w' ⟨rfl, rfl⟩) | (go_at_call 94; refine (sgd_any s _ _ hs _).mono ?_; rintro e w' ⟨rfl, rfl⟩))
  refine bodyPost_ret (v := .agg #[.int .i64 op, .int .i64 (unsV s (p + 1) 2), .int .i64 (0), .int .i64 (0), .slice none 0 0, .slice none 0 0, .string ⟨#[]⟩, .string ⟨#[]⟩, .string ⟨#[]⟩, .string ⟨#[]⟩]) ?_ rfl (tk_simple HT.out (by repeat (first | with_reducible exact hB | with_reducible exact Below.refl _ _ | with_reducible refine below_al ?_ _ | with_reducible refine below_st ?_ (by first | exact Nat.le_refl _ | exact Nat.le_add_right _ _ | (simp; omega)) _)))
  simp [results, Try.f67, go_sem, *]

set_option maxRecDepth 100000 in
set_option maxHeartbeats 1000000 in
theorem take8_3 (s : ByteArray) (p op : Int) (hs : s.size ≤ 1000000) (h0 : 0 ≤ p) (h1 : p ≤ s.size) (hk : kindV op = 3) (w : World) : Calls Try.prog 67 #[.string s, .int .i64 p, .int .i64 op] w (TkRet w s p op) := by
  have HT := Lib.hid (show tkC s p op = ⟨op, 0, 0, unsV s (p + 1) 2, [], []⟩ by unfold tkC; rw [hk]; rfl)
  have HK := Lib.hid hk
  have hB : Below w.heap.size w w := Below.refl _ _
  have hw1 : IntKind.i64.wrap (p + 1) = p + 1 := by simp [IntKind.wrap, IntKind.bits, IntKind.signed]; omega
  have hw2 : IntKind.i64.wrap (p + 2) = p + 2 := by simp [IntKind.wrap, IntKind.bits, IntKind.signed]; omega
  clear hk
  go_enter Try.func67, Try.ntmps67
  go_wp2_with (first | (go_at_call 51; refine (rkind_any _ _).mono ?_; rintro e w' ⟨rfl, rfl⟩; rw [HK.out]) | (go_at_call 95; refine (get_any s _ _ hs _).mono ?_; rintro e w' ⟨rfl, rfl⟩) | (go_at_call 94; refine (sgd_any s _ _ hs _).mono ?_; rintro e w' ⟨rfl, rfl⟩))
  refine bodyPost_ret (v := .agg #[.int .i64 op, .int .i64 (0), .int .i64 (0), .int .i64 (unsV s (p + 1) 2), .slice none 0 0, .slice none 0 0, .string ⟨#[]⟩, .string ⟨#[]⟩, .string ⟨#[]⟩, .string ⟨#[]⟩]) ?_ rfl (tk_simple HT.out (by repeat (first | with_reducible exact hB | with_reducible exact Below.refl _ _ | with_reducible refine below_al ?_ _ | with_reducible refine below_st ?_ (by first | exact Nat.le_refl _ | exact Nat.le_add_right _ _ | (simp; omega)) _)))
  simp [results, Try.f67, go_sem, *]

set_option maxRecDepth 100000 in
set_option maxHeartbeats 1000000 in
theorem take8_4 (s : ByteArray) (p op : Int) (hs : s.size ≤ 1000000) (h0 : 0 ≤ p) (h1 : p ≤ s.size) (hk : kindV op = 4) (w : World) : Calls Try.prog 67 #[.string s, .int .i64 p, .int .i64 op] w (TkRet w s p op) := by
  have HT := Lib.hid (show tkC s p op = ⟨op, unsV s (p + 1) 1, 0, 0, [], []⟩ by unfold tkC; rw [hk]; rfl)
  have HK := Lib.hid hk
  have hB : Below w.heap.size w w := Below.refl _ _
  have hw1 : IntKind.i64.wrap (p + 1) = p + 1 := by simp [IntKind.wrap, IntKind.bits, IntKind.signed]; omega
  have hw2 : IntKind.i64.wrap (p + 2) = p + 2 := by simp [IntKind.wrap, IntKind.bits, IntKind.signed]; omega
  clear hk
  go_enter Try.func67, Try.ntmps67
  go_wp2_with (first | (go_at_call 51; refine (rkind_any _ _).mono ?_; rintro e w' ⟨rfl, rfl⟩; rw [HK.out]) | (go_at_call 95; refine (get_any s _ _ hs _).mono ?_; rintro e w' ⟨rfl, rfl⟩) | (go_at_call 94; refine (sgd_any s _ _ hs _).mono ?_; rintro e w' ⟨rfl, rfl⟩))
  refine bodyPost_ret (v := .agg #[.int .i64 op, .int .i64 (unsV s (p + 1) 1), .int .i64 (0), .int .i64 (0), .slice none 0 0, .slice none 0 0, .string ⟨#[]⟩, .string ⟨#[]⟩, .string ⟨#[]⟩, .string ⟨#[]⟩]) ?_ rfl (tk_simple HT.out (by repeat (first | with_reducible exact hB | with_reducible exact Below.refl _ _ | with_reducible refine below_al ?_ _ | with_reducible refine below_st ?_ (by first | exact Nat.le_refl _ | exact Nat.le_add_right _ _ | (simp; omega)) _)))
  simp [results, Try.f67, go_sem, *]

set_option maxRecDepth 100000 in
set_option maxHeartbeats 1000000 in
theorem take8_5 (s : ByteArray) (p op : Int) (hs : s.size ≤ 1000000) (h0 : 0 ≤ p) (h1 : p ≤ s.size) (hk : kindV op = 5) (w : World) : Calls Try.prog 67 #[.string s, .int .i64 p, .int .i64 op] w (TkRet w s p op) := by
  have HT := Lib.hid (show tkC s p op = ⟨op, unsV s (p + 1) 1, sigV s (p + 2) 1, 0, [], []⟩ by unfold tkC; rw [hk]; rfl)
  have HK := Lib.hid hk
  have hB : Below w.heap.size w w := Below.refl _ _
  have hw1 : IntKind.i64.wrap (p + 1) = p + 1 := by simp [IntKind.wrap, IntKind.bits, IntKind.signed]; omega
  have hw2 : IntKind.i64.wrap (p + 2) = p + 2 := by simp [IntKind.wrap, IntKind.bits, IntKind.signed]; omega
  clear hk
  go_enter Try.func67, Try.ntmps67
  go_wp2_with (first | (go_at_call 51; refine (rkind_any _ _).mono ?_; rintro e w' ⟨rfl, rfl⟩; rw [HK.out]) | (go_at_call 95; refine (get_any s _ _ hs _).mono ?_; rintro e w' ⟨rfl, rfl⟩) | (go_at_call 94; refine (sgd_any s _ _ hs _).mono ?_; rintro e w' ⟨rfl, rfl⟩))
  refine bodyPost_ret (v := .agg #[.int .i64 op, .int .i64 (unsV s (p + 1) 1), .int .i64 (sigV s (p + 2) 1), .int .i64 (0), .slice none 0 0, .slice none 0 0, .string ⟨#[]⟩, .string ⟨#[]⟩, .string ⟨#[]⟩, .string ⟨#[]⟩]) ?_ rfl (tk_simple HT.out (by repeat (first | with_reducible exact hB | with_reducible exact Below.refl _ _ | with_reducible refine below_al ?_ _ | with_reducible refine below_st ?_ (by first | exact Nat.le_refl _ | exact Nat.le_add_right _ _ | (simp; omega)) _)))
  simp [results, Try.f67, go_sem, *]

end Go.Proofs.Ytpghkdmljanncaa
