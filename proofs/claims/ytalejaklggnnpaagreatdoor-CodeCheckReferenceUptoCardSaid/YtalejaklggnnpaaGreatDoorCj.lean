import Derived.Test.YtalejaklggnnpaaGreatDoorCiS
/- Layer 9: validMap. -/
namespace Go.Proofs.YtalejaklggnnpaaGreatDoor.I
open Go.ChangeShapes Go.WideShapes Go.ChangeAt Go.RowKit Go.PlainAid
set_option linter.unusedSimpArgs false
set_option linter.unusedVariables false
def nvB (L : List Cn) (c : Cd) (v : VT) : Bool := !vvT L c v
/-- what validMap's closure has captured: the pool's slice in block B1, the code in block B2 -/
structure Cap (A : Option Addr) (n cap : Nat) (c : Cd) (B1 B2 : Nat) (w : World) : Prop where
 p : w.heap[B1]? = some (.cells #[.slice A n cap] 22)
 c : w.heap[B2]? = some (.cells #[.int .i64 c.st, .int .i64 c.lo, .slice c.iA c.n c.ic, .slice c.hA c.hn c.hc, .slice c.mA c.mn c.mc, .slice c.lA c.ln c.lc] 28)
theorem Cap.up {A : Option Addr} {n cap : Nat} {c : Cd} {B1 B2 : Nat} {w w' : World} (h : Cap A n cap c B1 B2 w) (hb : Below w.heap.size w w') : Cap A n cap c B1 B2 w' := ⟨(hb.block _ (lt_heap h.p)).trans h.p, (hb.block _ (lt_heap h.c)).trans h.c⟩
theorem one_cell {W : World} {B : Nat} {a : Value} {t : TypeId} (hh : W.heap[B]? = some (.cells #[a] t)) : W.cell? ⟨B, 0, none⟩ = some a := by simp [World.cell?, hh]
set_option maxRecDepth 100000 in
set_option maxHeartbeats 8000000 in
theorem cvm_any {A : Option Addr} {n cap : Nat} {L : List Cn} (c : Cd) (v : VT) (B1 B2 : Nat) (w : World) (hS : Fits L) (hn : L.length = n) (hN : n ≤ 100000) (hp : Pool w w.heap.size A L) (hok : c.c9 w) (hc : Cap A n cap c B1 B2 w) :
  Calls Tryz.prog 64 #[(Value.agg #[Value.int IntKind.i64 (VT.k v), Value.int IntKind.i64 (VT.n v), Value.int IntKind.i64 (VT.d v), Value.int IntKind.u8 (VT.b v), Value.string (VT.s v), Value.int IntKind.i64 (VT.p v)]), .pointer (some ⟨B1, 0, none⟩), .pointer (some ⟨B2, 0, none⟩)] w fun e w' => e = .returned (.bool (nvB L c v)) ∧ Below w.heap.size w w' := by
 have K := Lib.hid (fun (W : World) (hW : Below w.heap.size w W) => cvt_any (cap := cap) c v W hS hn hN (hp.up hW) (hok.up hW))
 have HC := Lib.hid hc
 have hB : Below w.heap.size w w := Below.refl _ _
 unfold nvB
 obtain ⟨r, hr⟩ : ∃ r, vvT L c v = r := ⟨_, rfl⟩
 rw [hr] at K ⊢
 clear hS hn hN hp hok hc hr
 go_enter Tryz.func64, Tryz.ntmps64
 go_upto_region 1 with fail
 have hX := World.alloc_heap_new w (.cells #[.int .i64 v.k, .int .i64 v.n, .int .i64 v.d, .int .u8 v.b, .string v.s, .int .i64 v.p] 116)
 replace hB := below_al hB (.cells #[.int .i64 v.k, .int .i64 v.n, .int .i64 v.d, .int .u8 v.b, .string v.s, .int .i64 v.p] 116)
 generalize w.alloc (.cells #[.int .i64 v.k, .int .i64 v.n, .int .i64 v.d, .int .u8 v.b, .string v.s, .int .i64 v.p] 116) = W at hX hB ⊢
 have HC1 := Lib.hid (HC.out.up hB)
 obtain ⟨b0, b1, b2, b3, b4, b5⟩ := six_cells hX
 obtain ⟨r0, r1, r2, r3, r4, r5⟩ := six_cells HC1.out.c
 have p0 := one_cell HC1.out.p
 have yb := lt_heap hX
 have yr := lt_heap HC1.out.c
 have yp := lt_heap HC1.out.p
 go_wp2_with (go_at_call 65; (with_reducible refine (K.out _ hB).mono ?_); rintro e w2 ⟨rfl, hb2⟩)
 go_ret
 exact ⟨rfl, below_on hB hb2⟩
set_option maxRecDepth 100000 in
set_option maxHeartbeats 8000000 in
theorem ixv_any {A A2 : Option Addr} {n cap m c2 : Nat} {L : List Cn} {P : List VT} (c : Cd) (B1 B2 : Nat) (w : World) (hS : Fits L) (hn : L.length = n) (hN : n ≤ 100000) (hp : Pool w w.heap.size A L) (hok : c.c9 w) (hc : Cap A n cap c B1 B2 w) (hv : VS w w.heap.size A2 P) (hm : P.length = m) (hM : m ≤ 9223372036854775807) :
  Calls Tryz.prog 115 #[.slice A2 m c2, .func (.func 64) #[] #[.pointer (some ⟨B1, 0, none⟩), .pointer (some ⟨B2, 0, none⟩)]] w (IxRet (P.any (nvB L c)) w) := by
 have K := Lib.hid (fun (v : VT) (W : World) (hW : Below w.heap.size w W) => cvm_any (cap := cap) c v B1 B2 W hS hn hN (hp.up hW) (hok.up hW) (hc.up hW))
 have HP := Lib.hid hv
 have HN := Lib.hid hm
 have hen : Enters Tryz.prog 64 := enters_of Tryz.func64 (by kernel_rfl) rfl
 have he2 : ∀ (args : Array Value) (w : World), (callFunc 64 args).run Tryz.prog w = .ok (.enter 64 args) w := hen
 clear hS hn hN hp hok hc hv hm
 go_enter Tryz.func115, Tryz.ntmps115
 go_wp2
 go_loopw [8] (fun z wr => ∃ k : Nat, k ≤ m ∧ z = .int .i64 k ∧ (P.take k).any (nvB L c) = false ∧ Below w.heap.size w wr) (fun z _ => m - (intOf z).toNat)
 case atStart => exact ⟨0, Nat.zero_le _, rfl, rfl, Below.refl _ _⟩
 case round =>
  obtain ⟨k, hk, rfl, hall, hb⟩ := hrel
  have HALL := Lib.hid hall
  have HB := Lib.hid hb
  have HPr := Lib.hid (HP.out.up hb)
  clear hall hb
  by_cases hlt : k < m
  ·
   obtain ⟨v, hi⟩ := get_someF (l := P) (k := k) (by rw [HN.out]; exact hlt)
   obtain ⟨g, o, rfl, hg, a0, a1, a2, a3, a4, a5⟩ := HPr.out.six hi
   have HAT := Lib.hid (any_take (p := nvB L c) hi)
   have HOF := Lib.hid (any_of (p := nvB L c) hi)
   have hk0 : (0 : Int) ≤ (k : Int) := by omega
   have hk1 : (k : Int) < (m : Int) := by omega
   clear hi
   cases hc : nvB L c v with
   | true =>
    have HC := Lib.hid hc
    clear hc
    go_wp2_with (first | (go_at_call 64; refine (K.out v _ HB.out).mono ?_; rintro e w2 ⟨rfl, hb2⟩; rw [HC.out]) | (go_at_fn 64; refine (K.out v _ HB.out).mono ?_; rintro e w2 ⟨rfl, hb2⟩; rw [HC.out]))
    go_ret
    exact ⟨k, rfl, by rw [HOF.out HC.out]; simp, below_on HB.out hb2⟩
   | false =>
    have HC := Lib.hid hc
    clear hc
    go_wp2_with (first | (go_at_call 64; refine (K.out v _ HB.out).mono ?_; rintro e w2 ⟨rfl, hb2⟩; rw [HC.out]) | (go_at_fn 64; refine (K.out v _ HB.out).mono ?_; rintro e w2 ⟨rfl, hb2⟩; rw [HC.out]))
    exact ⟨⟨k + 1, hlt, by go_num, by rw [HAT.out, HALL.out, HC.out]; rfl, below_on HB.out hb2⟩, by simp [intOf]; omega⟩
  ·
   obtain rfl : m = k := by omega
   go_wp2
   go_ret
   exact ⟨-1, rfl, by have h9 := HALL.out; rw [List.take_of_length_le (by rw [HN.out]; exact Nat.le_refl _)] at h9; rw [h9]; decide, HB.out⟩
set_option maxRecDepth 100000 in
set_option maxHeartbeats 4000000 in
theorem cfv_any {A A2 : Option Addr} {n cap m c2 : Nat} {L : List Cn} {P : List VT} (c : Cd) (B1 B2 : Nat) (w : World) (hS : Fits L) (hn : L.length = n) (hN : n ≤ 100000) (hp : Pool w w.heap.size A L) (hok : c.c9 w) (hc : Cap A n cap c B1 B2 w) (hv : VS w w.heap.size A2 P) (hm : P.length = m) (hM : m ≤ 9223372036854775807) :
  Calls Tryz.prog 66 #[.slice A2 m c2, .func (.func 64) #[] #[.pointer (some ⟨B1, 0, none⟩), .pointer (some ⟨B2, 0, none⟩)]] w fun e w' => e = .returned (.bool (P.any (nvB L c))) ∧ Below w.heap.size w w' := by
 have K := Lib.hid (ixv_any (c2 := c2) c B1 B2 w hS hn hN hp hok hc hv hm hM)
 clear hS hn hN hp hok hc hv hm
 generalize P.any (nvB L c) = b at K ⊢
 go_enter Tryz.func66, Tryz.ntmps66
 go_wp2_with (go_at_call 115; refine K.out.mono ?_; rintro e w2 ⟨r, rfl, hr, hb2⟩)
 go_ret
 exact ⟨by rw [← hr]; first | rfl | simp, hb2⟩
end Go.Proofs.YtalejaklggnnpaaGreatDoor.I
