/- Layer 53: awake. -/
import Derived.Test.YtfpdnhbbbadegaaGreatDoorYu
namespace Go.Proofs.YtfpdnhbbbadegaaGreatDoor
open Go.ChangeShapes Go.WideShapes Go.ChangeAt Go.RowKit Go.PlainAid
set_option linter.unusedSimpArgs false
set_option linter.unusedVariables false

def exT : ByteArray := ⟨#[108, 97, 110, 103, 58, 58, 67, 111, 110, 115, 111, 108, 101, 32, 46, 32, 115, 97, 121, 32, 40, 32, 49, 76, 32, 41, 32, 47, 47, 32, 120]⟩
def exL : List Tk := [⟨1, [108, 97, 110, 103, 47, 67, 111, 110, 115, 111, 108, 101], 0, 0⟩, ⟨6, [46], 0, 14⟩, ⟨1, [115, 97, 121], 0, 16⟩, ⟨6, [40], 0, 20⟩, ⟨4, [], 1, 22⟩, ⟨6, [41], 0, 25⟩]
theorem ex_tk : tkL exT.data.toList = (exL, 0, 0) := by kernel_rfl
theorem ex_joE : joE exL = 0 := by kernel_rfl
theorem ex_joS : joS exL = [108, 97, 110, 103, 58, 58, 67, 111, 110, 115, 111, 108, 101, 32, 46, 32, 115, 97, 121, 32, 40, 32, 49, 76, 32, 41] := by kernel_rfl
theorem ex_bad : tkL [97, 32, 48, 49] = ([], 2, 70) := by kernel_rfl
theorem ex_sz : ∀ t ∈ exL, t.s.length ≤ 1048576 := by
  intro t ht
  have : ∀ t ∈ exL, t.s.length ≤ 12 := by
    unfold exL
    intro t ht
    simp only [List.mem_cons, List.not_mem_nil, or_false] at ht
    rcases ht with rfl | rfl | rfl | rfl | rfl | rfl <;> decide
  have := this t ht
  omega
theorem ex_rng : ∀ t ∈ exL, -9223372036854775808 ≤ t.n ∧ t.n ≤ 9223372036854775807 := by
  unfold exL
  intro t ht
  simp only [List.mem_cons, List.not_mem_nil, or_false] at ht
  rcases ht with rfl | rfl | rfl | rfl | rfl | rfl <;> decide
theorem own_tkr {w : World} {base n c : Nat} {A : Option Addr} {L : List Tk} (h : OwnR tF 4 27 w base A n c L) (hr : ∀ t ∈ L, -9223372036854775808 ≤ t.n ∧ t.n ≤ 9223372036854775807) : TkR w A n L := ⟨h.len, h.row tF_len (by decide), hr⟩
set_option maxRecDepth 100000 in
set_option maxHeartbeats 4000000 in
theorem awake53_any (w : World) (hL : Laid w) : Calls Tryz.prog 7 #[] w fun e w' => e = .returned (.bool true) ∧ Below w.heap.size w w' := by
  have HL := Lib.hid hL
  have K1 := Lib.hid (show Calls Tryz.prog 5 #[.string ⟨#[108, 97, 110, 103, 58, 58, 67, 111, 110, 115, 111, 108, 101, 32, 46, 32, 115, 97, 121, 32, 40, 32, 49, 76, 32, 41, 32, 47, 47, 32, 120]⟩] w (TzRet w (exL, 0, 0)) by have h := tokenize_any exT (by decide) w hL; rw [ex_tk] at h; exact h)
  have K3 := Lib.hid (fun W (hW : Laid W) => (by have h := tokenize_any ⟨#[97, 32, 48, 49]⟩ (by decide) W hW; rw [ex_bad] at h; exact h : Calls Tryz.prog 5 #[.string ⟨#[97, 32, 48, 49]⟩] W (TzRet W ([], 2, 70))))
  have K2 := Lib.hid (fun W A n c (hW : Laid W) (hO : TkR W A n exL) (hn : n ≤ 9223372036854775807) => (by have h := join_any (c := c) hn hO ex_sz hW; rw [ex_joE, ex_joS] at h; exact h : Calls Tryz.prog 11 #[.slice A n c] W fun e w' => e = .returned (.tuple #[.string (⟨#[108, 97, 110, 103, 58, 58, 67, 111, 110, 115, 111, 108, 101, 32, 46, 32, 115, 97, 121, 32, 40, 32, 49, 76, 32, 41]⟩), .int .i64 0]) ∧ Below W.heap.size W w'))
  clear hL
  go_enter Tryz.func7, Tryz.ntmps7
  go_upto_region 4 with (go_at_call 5; refine K1.out.mono ?_; rintro e w1 ⟨A, n, c, rfl, ho, hb1⟩; have hln := ho.len; obtain rfl : n = 6 := hln.symm; have HT := Lib.hid (own_tkr ho ex_rng); have HB1 := Lib.hid hb1; clear ho hb1)
  go_upto_region 6 with (first | (go_at_call 11; refine (K2.out _ _ _ _ (HL.out.up HB1.out) HT.out (by decide)).mono ?_; rintro e w2 ⟨rfl, hb2⟩; have HB2 := Lib.hid (below_on HB1.out hb2); have HT := Lib.hid (HT.out.up hb2); clear hb2) | (go_at_call 5; refine (K3.out _ (HL.out.up HB2.out)).mono ?_; rintro e w3 ⟨A3, n3, c3, rfl, _, hb3⟩; have HB3 := Lib.hid (below_on HB2.out hb3); have HT := Lib.hid (HT.out.up hb3); clear hb3))
  obtain ⟨t0, g0, o0, e0, q0, hg0, a00, a01, a02, a03⟩ := HT.out.get (k := 0) (by decide)
  subst q0
  obtain rfl := Option.some.inj e0
  obtain ⟨t1, g1, o1, e1, q1, hg1, a10, a11, a12, a13⟩ := HT.out.get (k := 1) (by decide)
  obtain ⟨rfl, rfl⟩ : g0 = g1 ∧ o0 = o1 := by injection q1 with h; injection h with h1 h2; exact ⟨h1, h2⟩
  obtain rfl := Option.some.inj e1
  obtain ⟨t4, g4, o4, e4, q4, hg4, a40, a41, a42, a43⟩ := HT.out.get (k := 4) (by decide)
  obtain ⟨rfl, rfl⟩ : g0 = g4 ∧ o0 = o4 := by injection q4 with h; injection h with h1 h2; exact ⟨h1, h2⟩
  obtain rfl := Option.some.inj e4
  obtain ⟨t5, g5, o5, e5, q5, hg5, a50, a51, a52, a53⟩ := HT.out.get (k := 5) (by decide)
  obtain ⟨rfl, rfl⟩ : g0 = g5 ∧ o0 = o5 := by injection q5 with h; injection h with h1 h2; exact ⟨h1, h2⟩
  obtain rfl := Option.some.inj e5
  have b00 : w3.cell? ⟨g0, o0, none⟩ = some (.int .i64 1) := a00
  have b01 : w3.cell? ⟨g0, o0 + 1, none⟩ = some (.string ⟨#[108, 97, 110, 103, 47, 67, 111, 110, 115, 111, 108, 101]⟩) := a01
  have b02 : w3.cell? ⟨g0, o0 + 2, none⟩ = some (.int .i64 0) := a02
  have b03 : w3.cell? ⟨g0, o0 + 3, none⟩ = some (.int .i64 0) := a03
  have b10 : w3.cell? ⟨g0, o0 + 4, none⟩ = some (.int .i64 6) := a10
  have b11 : w3.cell? ⟨g0, o0 + 5, none⟩ = some (.string ⟨#[46]⟩) := a11
  have b12 : w3.cell? ⟨g0, o0 + 6, none⟩ = some (.int .i64 0) := a12
  have b13 : w3.cell? ⟨g0, o0 + 7, none⟩ = some (.int .i64 14) := a13
  have b40 : w3.cell? ⟨g0, o0 + 16, none⟩ = some (.int .i64 4) := a40
  have b41 : w3.cell? ⟨g0, o0 + 17, none⟩ = some (.string ⟨#[]⟩) := a41
  have b42 : w3.cell? ⟨g0, o0 + 18, none⟩ = some (.int .i64 1) := a42
  have b43 : w3.cell? ⟨g0, o0 + 19, none⟩ = some (.int .i64 22) := a43
  have b50 : w3.cell? ⟨g0, o0 + 20, none⟩ = some (.int .i64 6) := a50
  have b51 : w3.cell? ⟨g0, o0 + 21, none⟩ = some (.string ⟨#[41]⟩) := a51
  have b52 : w3.cell? ⟨g0, o0 + 22, none⟩ = some (.int .i64 0) := a52
  have b53 : w3.cell? ⟨g0, o0 + 23, none⟩ = some (.int .i64 25) := a53
  clear a00 a01 a02 a03 a10 a11 a12 a13 a40 a41 a42 a43 a50 a51 a52 a53 hg1 hg4 hg5
  have HB9 := Lib.hid HB3.out
  go_wp2
  go_ret
  exact ⟨rfl, HB9.out⟩

end Go.Proofs.YtfpdnhbbbadegaaGreatDoor
