/- Layer 53, the reference: FormatToken. (gen/tm.py) -/
import Derived.Test.YtfpdnhbbbadegaaGreatDoorTj
import Derived.Test.YtfpdnhbbbadegaaGreatDoorTl
namespace Go.Proofs.YtfpdnhbbbadegaaGreatDoor
open Go.ChangeShapes Go.WideShapes Go.ChangeAt Go.RowKit Go.PlainAid
set_option linter.unusedSimpArgs false
set_option linter.unusedVariables false

set_option maxRecDepth 100000 in
set_option maxHeartbeats 2000000 in
theorem rfmt_no (k n a : Int) (s : ByteArray) (hs : s.size ≤ 1048576) (hn1 : n ≤ 9223372036854775807) (hf : fmB k s.data.toList n = false) (w : World) : Calls Tryz.prog 10 #[.agg #[.int .i64 k, .string s, .int .i64 n, .int .i64 a]] w fun e w' => e = .returned (.tuple #[.string ⟨#[]⟩, .int .i64 1]) ∧ Below w.heap.size w w' := by
  have HZ := Lib.hid (World.alloc_heap_new w (.cells #[.int .i64 k, .string s, .int .i64 n, .int .i64 a] 27))
  have HB := Lib.hid (below_al (Below.refl w.heap.size w) (.cells #[.int .i64 k, .string s, .int .i64 n, .int .i64 a] 27))
  have KV := Lib.hid (fun W => by have h := rvalid_any k n a s hs (by omega) W; rw [hf] at h; exact h)
  go_enter Tryz.func10, Tryz.ntmps10
  go_upto_region 1 with fail
  generalize w.alloc (.cells #[.int .i64 k, .string s, .int .i64 n, .int .i64 a] 27) = W0 at HZ HB ⊢
  obtain ⟨⟨z0, z1, z2, z3⟩, fz, yz⟩ := four_cellsT HZ.out
  go_wp2_with (first | (go_at_call 24; refine (KV.out _).mono ?_; rintro e w1 ⟨rfl, hb⟩; have HB := Lib.hid (below_on HB.out hb); have HZ := Lib.hid ((hb.block _ (lt_heap HZ.out)).trans HZ.out); obtain ⟨⟨z0, z1, z2, z3⟩, fz, yz⟩ := four_cellsT HZ.out; clear hb))
  go_ret2
  exact ⟨rfl, HB.out⟩
set_option maxRecDepth 100000 in
set_option maxHeartbeats 2000000 in
theorem rfmt_3 (n a : Int) (s : ByteArray) (hs : s.size ≤ 1048576) (u : Nat) (hu : n = u) (hn1 : n ≤ 9223372036854775807) (hf : fmB 3 s.data.toList n = true) (w : World) : Calls Tryz.prog 10 #[.agg #[.int .i64 3, .string s, .int .i64 n, .int .i64 a]] w fun e w' => e = .returned (.tuple #[.string (bsB (txL 3 s.data.toList n)), .int .i64 0]) ∧ Below w.heap.size w w' := by
  subst hu
  have hu9 : u ≤ 9223372036854775807 := by omega
  rw [show txL 3 s.data.toList (u : Int) = Lib.decDigits u by unfold txL; rw [if_neg (by decide), if_pos rfl, itoa_nat]]
  have HZ := Lib.hid (World.alloc_heap_new w (.cells #[.int .i64 3, .string s, .int .i64 (u : Int), .int .i64 a] 27))
  have HB := Lib.hid (below_al (Below.refl w.heap.size w) (.cells #[.int .i64 3, .string s, .int .i64 (u : Int), .int .i64 a] 27))
  have KV := Lib.hid (fun W => by have h := rvalid_any 3 (u : Int) a s hs (by omega) W; rw [hf] at h; exact h)
  go_enter Tryz.func10, Tryz.ntmps10
  go_upto_region 1 with fail
  generalize w.alloc (.cells #[.int .i64 3, .string s, .int .i64 (u : Int), .int .i64 a] 27) = W0 at HZ HB ⊢
  obtain ⟨⟨z0, z1, z2, z3⟩, fz, yz⟩ := four_cellsT HZ.out
  go_wp2_with (first | (go_at_call 24; refine (KV.out _).mono ?_; rintro e w1 ⟨rfl, hb⟩; have HB := Lib.hid (below_on HB.out hb); have HZ := Lib.hid ((hb.block _ (lt_heap HZ.out)).trans HZ.out); obtain ⟨⟨z0, z1, z2, z3⟩, fz, yz⟩ := four_cellsT HZ.out; clear hb) | (go_at_call 25; refine (rdigits_any u hu9 _).mono ?_; rintro e w1 ⟨rfl, rfl⟩))
  go_ret2
  exact ⟨rfl, HB.out⟩
set_option maxRecDepth 100000 in
set_option maxHeartbeats 2000000 in
theorem rfmt_4 (n a : Int) (s : ByteArray) (hs : s.size ≤ 1048576) (u : Nat) (hu : n = u) (hn1 : n ≤ 9223372036854775807) (hf : fmB 4 s.data.toList n = true) (w : World) : Calls Tryz.prog 10 #[.agg #[.int .i64 4, .string s, .int .i64 n, .int .i64 a]] w fun e w' => e = .returned (.tuple #[.string (bsB (txL 4 s.data.toList n)), .int .i64 0]) ∧ Below w.heap.size w w' := by
  subst hu
  have hu9 : u ≤ 9223372036854775807 := by omega
  have hdl : (bsB (Lib.decDigits u)).size ≤ 21 := by
    have := Lib.itoa_length_le (u : Int) (by omega) hn1
    rw [bsB_size, ← Lib.itoa_nonneg]; exact this
  have h76 : (⟨#[76]⟩ : ByteArray).size = 1 := rfl
  rw [show bsB (txL 4 s.data.toList (u : Int)) = bsB (Lib.decDigits u) ++ ⟨#[76]⟩ by unfold txL; rw [if_neg (by decide), if_neg (by decide), if_pos rfl, itoa_nat]; exact ba_ext (by rw [ByteArray.data_append, Array.toList_append]; rfl)]
  have HZ := Lib.hid (World.alloc_heap_new w (.cells #[.int .i64 4, .string s, .int .i64 (u : Int), .int .i64 a] 27))
  have HB := Lib.hid (below_al (Below.refl w.heap.size w) (.cells #[.int .i64 4, .string s, .int .i64 (u : Int), .int .i64 a] 27))
  have KV := Lib.hid (fun W => by have h := rvalid_any 4 (u : Int) a s hs (by omega) W; rw [hf] at h; exact h)
  go_enter Tryz.func10, Tryz.ntmps10
  go_upto_region 1 with fail
  generalize w.alloc (.cells #[.int .i64 4, .string s, .int .i64 (u : Int), .int .i64 a] 27) = W0 at HZ HB ⊢
  obtain ⟨⟨z0, z1, z2, z3⟩, fz, yz⟩ := four_cellsT HZ.out
  go_wp2_with (first | (go_at_call 24; refine (KV.out _).mono ?_; rintro e w1 ⟨rfl, hb⟩; have HB := Lib.hid (below_on HB.out hb); have HZ := Lib.hid ((hb.block _ (lt_heap HZ.out)).trans HZ.out); obtain ⟨⟨z0, z1, z2, z3⟩, fz, yz⟩ := four_cellsT HZ.out; clear hb) | (go_at_call 25; refine (rdigits_any u hu9 _).mono ?_; rintro e w1 ⟨rfl, rfl⟩))
  go_ret2
  exact ⟨rfl, HB.out⟩
set_option maxRecDepth 100000 in
set_option maxHeartbeats 2000000 in
theorem rfmt_5 (n a : Int) (s : ByteArray) (hs : s.size ≤ 1048576) (hn1 : n ≤ 9223372036854775807) (hf : fmB 5 s.data.toList n = true) (w : World) : Calls Tryz.prog 10 #[.agg #[.int .i64 5, .string s, .int .i64 n, .int .i64 a]] w fun e w' => e = .returned (.tuple #[.string (bsB (txL 5 s.data.toList n)), .int .i64 0]) ∧ Below w.heap.size w w' := by
  rw [show txL 5 s.data.toList n = quL s.data.toList by unfold txL; rw [if_neg (by decide), if_neg (by decide), if_neg (by decide), if_pos rfl]]
  have HZ := Lib.hid (World.alloc_heap_new w (.cells #[.int .i64 5, .string s, .int .i64 n, .int .i64 a] 27))
  have HB := Lib.hid (below_al (Below.refl w.heap.size w) (.cells #[.int .i64 5, .string s, .int .i64 n, .int .i64 a] 27))
  have KV := Lib.hid (fun W => by have h := rvalid_any 5 n a s hs (by omega) W; rw [hf] at h; exact h)
  go_enter Tryz.func10, Tryz.ntmps10
  go_upto_region 1 with fail
  generalize w.alloc (.cells #[.int .i64 5, .string s, .int .i64 n, .int .i64 a] 27) = W0 at HZ HB ⊢
  obtain ⟨⟨z0, z1, z2, z3⟩, fz, yz⟩ := four_cellsT HZ.out
  go_wp2_with (first | (go_at_call 24; refine (KV.out _).mono ?_; rintro e w1 ⟨rfl, hb⟩; have HB := Lib.hid (below_on HB.out hb); have HZ := Lib.hid ((hb.block _ (lt_heap HZ.out)).trans HZ.out); obtain ⟨⟨z0, z1, z2, z3⟩, fz, yz⟩ := four_cellsT HZ.out; clear hb) | (go_at_call 26; refine (rquoted_any s hs _).mono ?_; rintro e w1 ⟨rfl, hb⟩; have HB := Lib.hid (below_on HB.out hb); clear hb))
  go_ret2
  exact ⟨rfl, HB.out⟩
set_option maxRecDepth 100000 in
set_option maxHeartbeats 2000000 in
theorem rfmt_1 (n a : Int) (s : ByteArray) (hs : s.size ≤ 1048576) (hn1 : n ≤ 9223372036854775807) (hf : fmB 1 s.data.toList n = true) (w : World) : Calls Tryz.prog 10 #[.agg #[.int .i64 1, .string s, .int .i64 n, .int .i64 a]] w fun e w' => e = .returned (.tuple #[.string (bsB (txL 1 s.data.toList n)), .int .i64 0]) ∧ Below w.heap.size w w' := by
  rw [show txL 1 s.data.toList n = rpL s.data.toList by unfold txL; rw [if_pos rfl]]
  have HZ := Lib.hid (World.alloc_heap_new w (.cells #[.int .i64 1, .string s, .int .i64 n, .int .i64 a] 27))
  have HB := Lib.hid (below_al (Below.refl w.heap.size w) (.cells #[.int .i64 1, .string s, .int .i64 n, .int .i64 a] 27))
  have KV := Lib.hid (fun W => by have h := rvalid_any 1 n a s hs (by omega) W; rw [hf] at h; exact h)
  go_enter Tryz.func10, Tryz.ntmps10
  go_upto_region 1 with fail
  generalize w.alloc (.cells #[.int .i64 1, .string s, .int .i64 n, .int .i64 a] 27) = W0 at HZ HB ⊢
  obtain ⟨⟨z0, z1, z2, z3⟩, fz, yz⟩ := four_cellsT HZ.out
  go_wp2_with (first | (go_at_call 24; refine (KV.out _).mono ?_; rintro e w1 ⟨rfl, hb⟩; have HB := Lib.hid (below_on HB.out hb); have HZ := Lib.hid ((hb.block _ (lt_heap HZ.out)).trans HZ.out); obtain ⟨⟨z0, z1, z2, z3⟩, fz, yz⟩ := four_cellsT HZ.out; clear hb) | (go_at_call 27; refine (rspelled_any s hs _).mono ?_; rintro e w1 ⟨rfl, rfl⟩))
  go_ret2
  exact ⟨rfl, HB.out⟩
set_option maxRecDepth 100000 in
set_option maxHeartbeats 2000000 in
theorem rfmt_2 (n a : Int) (s : ByteArray) (hs : s.size ≤ 1048576) (hn1 : n ≤ 9223372036854775807) (hf : fmB 2 s.data.toList n = true) (w : World) : Calls Tryz.prog 10 #[.agg #[.int .i64 2, .string s, .int .i64 n, .int .i64 a]] w fun e w' => e = .returned (.tuple #[.string (bsB (txL 2 s.data.toList n)), .int .i64 0]) ∧ Below w.heap.size w w' := by
  rw [show bsB (txL 2 s.data.toList n) = s by unfold txL; rw [if_neg (by decide), if_neg (by decide), if_neg (by decide), if_neg (by decide)]; exact (bsB_of rfl).symm]
  have HZ := Lib.hid (World.alloc_heap_new w (.cells #[.int .i64 2, .string s, .int .i64 n, .int .i64 a] 27))
  have HB := Lib.hid (below_al (Below.refl w.heap.size w) (.cells #[.int .i64 2, .string s, .int .i64 n, .int .i64 a] 27))
  have KV := Lib.hid (fun W => by have h := rvalid_any 2 n a s hs (by omega) W; rw [hf] at h; exact h)
  go_enter Tryz.func10, Tryz.ntmps10
  go_upto_region 1 with fail
  generalize w.alloc (.cells #[.int .i64 2, .string s, .int .i64 n, .int .i64 a] 27) = W0 at HZ HB ⊢
  obtain ⟨⟨z0, z1, z2, z3⟩, fz, yz⟩ := four_cellsT HZ.out
  go_wp2_with (first | (go_at_call 24; refine (KV.out _).mono ?_; rintro e w1 ⟨rfl, hb⟩; have HB := Lib.hid (below_on HB.out hb); have HZ := Lib.hid ((hb.block _ (lt_heap HZ.out)).trans HZ.out); obtain ⟨⟨z0, z1, z2, z3⟩, fz, yz⟩ := four_cellsT HZ.out; clear hb))
  go_ret2
  exact ⟨rfl, HB.out⟩
set_option maxRecDepth 100000 in
set_option maxHeartbeats 2000000 in
theorem rfmt_6 (n a : Int) (s : ByteArray) (hs : s.size ≤ 1048576) (hn1 : n ≤ 9223372036854775807) (hf : fmB 6 s.data.toList n = true) (w : World) : Calls Tryz.prog 10 #[.agg #[.int .i64 6, .string s, .int .i64 n, .int .i64 a]] w fun e w' => e = .returned (.tuple #[.string (bsB (txL 6 s.data.toList n)), .int .i64 0]) ∧ Below w.heap.size w w' := by
  rw [show bsB (txL 6 s.data.toList n) = s by unfold txL; rw [if_neg (by decide), if_neg (by decide), if_neg (by decide), if_neg (by decide)]; exact (bsB_of rfl).symm]
  have HZ := Lib.hid (World.alloc_heap_new w (.cells #[.int .i64 6, .string s, .int .i64 n, .int .i64 a] 27))
  have HB := Lib.hid (below_al (Below.refl w.heap.size w) (.cells #[.int .i64 6, .string s, .int .i64 n, .int .i64 a] 27))
  have KV := Lib.hid (fun W => by have h := rvalid_any 6 n a s hs (by omega) W; rw [hf] at h; exact h)
  go_enter Tryz.func10, Tryz.ntmps10
  go_upto_region 1 with fail
  generalize w.alloc (.cells #[.int .i64 6, .string s, .int .i64 n, .int .i64 a] 27) = W0 at HZ HB ⊢
  obtain ⟨⟨z0, z1, z2, z3⟩, fz, yz⟩ := four_cellsT HZ.out
  go_wp2_with (first | (go_at_call 24; refine (KV.out _).mono ?_; rintro e w1 ⟨rfl, hb⟩; have HB := Lib.hid (below_on HB.out hb); have HZ := Lib.hid ((hb.block _ (lt_heap HZ.out)).trans HZ.out); obtain ⟨⟨z0, z1, z2, z3⟩, fz, yz⟩ := four_cellsT HZ.out; clear hb))
  go_ret2
  exact ⟨rfl, HB.out⟩
theorem rformat_any (k n a : Int) (s : ByteArray) (hs : s.size ≤ 1048576) (hn1 : n ≤ 9223372036854775807) (w : World) :
    Calls Tryz.prog 10 #[.agg #[.int .i64 k, .string s, .int .i64 n, .int .i64 a]] w fun e w' => e = .returned (fmV k s.data.toList n) ∧ Below w.heap.size w w' := by
  cases hf : fmB k s.data.toList n with
  | false =>
    rw [show fmV k s.data.toList n = .tuple #[.string ⟨#[]⟩, .int .i64 1] by unfold fmV; rw [hf]; rfl]
    exact rfmt_no k n a s hs hn1 hf w
  | true =>
    rw [show fmV k s.data.toList n = .tuple #[.string (bsB (txL k s.data.toList n)), .int .i64 0] by unfold fmV; rw [hf]; rfl]
    rcases fmt_kd hf with ⟨h, _⟩ | ⟨h, _⟩ | ⟨h, _, u, hu, _⟩ | ⟨h, _, u, hu, _⟩ | ⟨h, _⟩ | ⟨h, _⟩
    · obtain rfl : k = 1 := h
      exact rfmt_1 n a s hs hn1 hf w
    · obtain rfl : k = 2 := h
      exact rfmt_2 n a s hs hn1 hf w
    · obtain rfl : k = 3 := h
      exact rfmt_3 n a s hs u hu hn1 hf w
    · obtain rfl : k = 4 := h
      exact rfmt_4 n a s hs u hu hn1 hf w
    · obtain rfl : k = 5 := h
      exact rfmt_5 n a s hs hn1 hf w
    · obtain rfl : k = 6 := h
      exact rfmt_6 n a s hs hn1 hf w

end Go.Proofs.YtfpdnhbbbadegaaGreatDoor
