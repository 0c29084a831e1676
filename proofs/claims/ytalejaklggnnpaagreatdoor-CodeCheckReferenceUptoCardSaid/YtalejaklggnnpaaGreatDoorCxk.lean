import Derived.Test.YtalejaklggnnpaaGreatDoorCxi
import Derived.Test.YtalejaklggnnpaaGreatDoorCxj
/- Layer 9, the reference: Check. (gen/cxg.py) -/
namespace Go.Proofs.YtalejaklggnnpaaGreatDoor.I
open Go.ChangeShapes Go.WideShapes Go.ChangeAt Go.RowKit Go.PlainAid
set_option linter.unusedSimpArgs false
set_option linter.unusedVariables false
theorem short_fits {L : List Cn} (h : Short L) : Fits L := fun x hx => by have := h x hx; omega
theorem sz_ch {L : List Cn} {c : Cd} (h : szE L c = 0) : chE L = 0 := by
 by_cases h1 : (chE L != 0) = true
 ·
  rw [sz_1 h1] at h; exact h
 ·
  simpa using h1
set_option maxRecDepth 100000 in
set_option maxHeartbeats 16000000 in
theorem r9chk_any {A : Option Addr} {n cap : Nat} {L : List Cn} (c : Cd) (ms : List SM) (ls : List (Int × Int)) (w : World) (hS : Short L) (hn : L.length = n) (hN : n ≤ 100000) (hp : Pool w w.heap.size A L) (hok : c.m9 w ms ls) :
  Calls Tryz.prog 11 #[.slice A n cap, (Value.agg #[Value.int IntKind.i64 (Cd.st c), Value.int IntKind.i64 (Cd.lo c), Value.slice (Cd.iA c) (Cd.n c) (Cd.ic c), Value.slice (Cd.hA c) (Cd.hn c) (Cd.hc c), Value.slice (Cd.mA c) (Cd.mn c) (Cd.mc c), Value.slice (Cd.lA c) (Cd.ln c) (Cd.lc c)])] w fun e w' => e = .returned (.tuple #[.int .i64 (ckC L c ms ls).1, .int .i64 (ckC L c ms ls).2]) ∧ Below w.heap.size w w' := by
 have hB : Below w.heap.size w w := Below.refl _ _
 have OK := Lib.hid hok
 have HP := Lib.hid hp
 have HN := Lib.hid hn
 have HS := Lib.hid hS
 have HF := Lib.hid (short_fits hS)
 have hcn := hok.c9.ib
 clear hok hp hn hS
 obtain ⟨r, hr⟩ : ∃ r, ckC L c ms ls = r := ⟨_, rfl⟩
 have HR := Lib.hid hr
 rw [hr]
 clear hr
 obtain ⟨r1', r2'⟩ := r
 obtain ⟨sz, hsz⟩ : ∃ x, szE L c = x := ⟨_, rfl⟩
 have HSZ := Lib.hid hsz
 obtain ⟨iA, hiA⟩ : ∃ A, c.iA = A := ⟨_, rfl⟩
 have HIA := Lib.hid hiA
 clear hsz hiA
 go_enter Tryz.func11, Tryz.ntmps11
 go_upto_region 1 with fail
 have R := World.alloc_heap_new w (.cells #[.int .i64 c.st, .int .i64 c.lo, .slice c.iA c.n c.ic, .slice c.hA c.hn c.hc, .slice c.mA c.mn c.mc, .slice c.lA c.ln c.lc] 28)
 replace hB := below_al hB (.cells #[.int .i64 c.st, .int .i64 c.lo, .slice c.iA c.n c.ic, .slice c.hA c.hn c.hc, .slice c.mA c.mn c.mc, .slice c.lA c.ln c.lc] 28)
 generalize w.alloc (.cells #[.int .i64 c.st, .int .i64 c.lo, .slice c.iA c.n c.ic, .slice c.hA c.hn c.hc, .slice c.mA c.mn c.mc, .slice c.lA c.ln c.lc] 28) = W1 at R hB ⊢
 obtain ⟨r0, r1, r2, r3, r4, r5⟩ := six_cells R
 have y1 := lt_heap R
 replace R := Lib.hid R
 have HP1 := Lib.hid (HP.out.up hB)
 have OK1 := Lib.hid (OK.out.up hB)
 by_cases hE : sz = 0
 ·
  have HE := Lib.hid (show szE L c = 0 by rw [HSZ.out]; exact hE)
  have HVV := Lib.hid (ch_zero (sz_ch HE.out)).2
  rw [hE] at HSZ
  clear hE
  go_upto_region 4 with (go_at_call 29; refine (r9head_any c _ HS.out HN.out hN HP1.out OK1.out.c9).mono ?_; rintro e w1 ⟨rfl, hb1⟩; rw [HSZ.out])
  have HB := Lib.hid (below_on hB hb1)
  have RB := Lib.hid ((hb1.block _ y1).trans R.out)
  have HP2 := Lib.hid (HP1.out.up hb1)
  have OK2 := Lib.hid (OK1.out.up hb1)
  clear r0 r1 r2 r3 r4 r5 y1 R hb1 hB HP1 OK1
  clear W1
  obtain ⟨r0, r1, r2, r3, r4, r5⟩ := six_cells RB.out
  have yr := lt_heap RB.out
  go_wp2
  clear r0 r1 r2 r3 r4 r5 yr
  go_loopw [8] (fun z wr => ∃ k : Nat, k ≤ c.n ∧ z = .int .i64 k ∧ (c.is.take k).any (nzI L c) = false ∧ Below w1.heap.size w1 wr) (fun z _ => c.n - (intOf z).toNat)
  case atStart => exact ⟨0, Nat.zero_le _, rfl, rfl, Below.refl _ _⟩
  case round =>
   obtain ⟨k, hk, rfl, hall, hbr⟩ := hrel
   have HALL := Lib.hid hall
   have HBR := Lib.hid hbr
   have RBr := Lib.hid ((hbr.block _ (lt_heap RB.out)).trans RB.out)
   have OKr := Lib.hid (OK2.out.up hbr)
   have HPr := Lib.hid (HP2.out.up hbr)
   have hiw := OKr.out.c9.iw
   rw [HIA.out] at hiw
   clear hall hbr
   obtain ⟨r0, r1, r2, r3, r4, r5⟩ := six_cells RBr.out
   rw [HIA.out] at r2
   have yr := lt_heap RBr.out
   by_cases hlt : k < c.n
   ·
    obtain ⟨i, hi⟩ := get_someF (l := c.is) (k := k) (by rw [OKr.out.c9.il]; exact hlt)
    rcases hiw with h0 | ⟨g, o, rfl, hg, hcell⟩
    ·
     rw [h0] at hi; simp at hi
    ·
     obtain ⟨iok, a0, a1, a2, a3, a4, a5, a6, a7, a8, a9⟩ := hcell k _ hi
     have HIK := Lib.hid hi
     have HIM := Lib.hid (List.mem_of_getElem? hi)
     have HAT := Lib.hid (any_take (p := nzI L c) hi)
     have hk0 : (0 : Int) ≤ (k : Int) := by omega
     have hk1 : (k : Int) < (c.n : Int) := by omega
     have IOK := Lib.hid iok
     clear hcell iok hi
     obtain ⟨ie, hie⟩ : ∃ x, inE L c i = x := ⟨_, rfl⟩
     have HIE := Lib.hid hie
     clear hie
     have K9 := Lib.hid (fun (W : World) (hW : Below wr.heap.size wr W) => by
      have h9 := r9cin_any (cap := cap) c i W HVV.out HF.out HN.out hN (HPr.out.up hW) (IOK.out.up hW) (OK.out.c9.nz i HIM.out) (OK.out.c9.tn i HIM.out)
      rw [HIA.out, HIE.out] at h9
      exact h9)
     by_cases hi0 : ie = 0
     ·
      have HZ := Lib.hid (show nzI L c i = false by unfold nzI; rw [HIE.out]; simpa using hi0)
      rw [hi0] at HIE K9
      go_upto_region 8 with fail
      go_region_held3 (fun w' => w'.cell? ⟨w.heap.size, 0, none⟩ = some (.int .i64 c.st) ∧ w'.cell? ⟨w.heap.size, 1, none⟩ = some (.int .i64 c.lo) ∧ w'.cell? ⟨w.heap.size, 2, none⟩ = some (.slice (some ⟨g, o, none⟩) c.n c.ic) ∧ w'.cell? ⟨w.heap.size, 3, none⟩ = some (.slice c.hA c.hn c.hc) ∧ w'.cell? ⟨w.heap.size, 4, none⟩ = some (.slice c.mA c.mn c.mc) ∧ w'.cell? ⟨w.heap.size, 5, none⟩ = some (.slice c.lA c.ln c.lc) ∧ w'.cell? ⟨g, o + k * 10, none⟩ = some (.int .i64 i.op) ∧ w'.cell? ⟨g, o + k * 10 + 1, none⟩ = some (.int .i64 i.a) ∧ w'.cell? ⟨g, o + k * 10 + 2, none⟩ = some (.int .i64 i.b) ∧ w'.cell? ⟨g, o + k * 10 + 3, none⟩ = some (.int .i64 i.t) ∧ w'.cell? ⟨g, o + k * 10 + 4, none⟩ = some (.slice i.kA i.kn i.kc) ∧ w'.cell? ⟨g, o + k * 10 + 5, none⟩ = some (.slice i.tA i.tn i.tc) ∧ w'.cell? ⟨g, o + k * 10 + 6, none⟩ = some (.string i.r1) ∧ w'.cell? ⟨g, o + k * 10 + 7, none⟩ = some (.string i.r2) ∧ w'.cell? ⟨g, o + k * 10 + 8, none⟩ = some (.string i.r3) ∧ w'.cell? ⟨g, o + k * 10 + 9, none⟩ = some (.string i.s) ∧ w.heap.size < w'.heap.size ∧ g < w'.heap.size ∧ Below wr.heap.size wr w') (((try go_split_ands); (repeat' apply And.intro) <;> (first | assumption | exact (Below.refl _ _).drew | (first | exact below_on (w := wr) (by assumption) hq | exact Below.drew (by assumption) | assumption) | exact (Below.cell hq (by first | omega | (simp; omega))).trans (by assumption) | (have := hq.size; omega) | (simp; omega) | go_keep)))
       ((go_at_call 30; (with_reducible refine (K9.out _ (by first | assumption | (go_split_ands; assumption))).mono ?_); rintro e w2 ⟨rfl, hq⟩))
      go_split_ands
      have hend : Below wr.heap.size wr w2 := by assumption
      go_wp2
      exact ⟨⟨k + 1, hlt, by go_num, by rw [HAT.out, HALL.out, HZ.out]; rfl, below_on HBR.out hend⟩, by simp [intOf]; omega⟩
     ·
      have H := Lib.hid (cc_2 (ms := ms) (ls := ls) HE.out HALL.out HIK.out (show nzI L c i = true by unfold nzI; rw [HIE.out]; simpa using hi0))
      have ei : (ie != 0) = true := by simpa using hi0
      go_upto_region 8 with fail
      go_region_held3 (fun w' => w'.cell? ⟨w.heap.size, 0, none⟩ = some (.int .i64 c.st) ∧ w'.cell? ⟨w.heap.size, 1, none⟩ = some (.int .i64 c.lo) ∧ w'.cell? ⟨w.heap.size, 2, none⟩ = some (.slice (some ⟨g, o, none⟩) c.n c.ic) ∧ w'.cell? ⟨w.heap.size, 3, none⟩ = some (.slice c.hA c.hn c.hc) ∧ w'.cell? ⟨w.heap.size, 4, none⟩ = some (.slice c.mA c.mn c.mc) ∧ w'.cell? ⟨w.heap.size, 5, none⟩ = some (.slice c.lA c.ln c.lc) ∧ w'.cell? ⟨g, o + k * 10, none⟩ = some (.int .i64 i.op) ∧ w'.cell? ⟨g, o + k * 10 + 1, none⟩ = some (.int .i64 i.a) ∧ w'.cell? ⟨g, o + k * 10 + 2, none⟩ = some (.int .i64 i.b) ∧ w'.cell? ⟨g, o + k * 10 + 3, none⟩ = some (.int .i64 i.t) ∧ w'.cell? ⟨g, o + k * 10 + 4, none⟩ = some (.slice i.kA i.kn i.kc) ∧ w'.cell? ⟨g, o + k * 10 + 5, none⟩ = some (.slice i.tA i.tn i.tc) ∧ w'.cell? ⟨g, o + k * 10 + 6, none⟩ = some (.string i.r1) ∧ w'.cell? ⟨g, o + k * 10 + 7, none⟩ = some (.string i.r2) ∧ w'.cell? ⟨g, o + k * 10 + 8, none⟩ = some (.string i.r3) ∧ w'.cell? ⟨g, o + k * 10 + 9, none⟩ = some (.string i.s) ∧ w.heap.size < w'.heap.size ∧ g < w'.heap.size ∧ Below wr.heap.size wr w') (((try go_split_ands); (repeat' apply And.intro) <;> (first | assumption | exact (Below.refl _ _).drew | (first | exact below_on (w := wr) (by assumption) hq | exact Below.drew (by assumption) | assumption) | exact (Below.cell hq (by first | omega | (simp; omega))).trans (by assumption) | (have := hq.size; omega) | (simp; omega) | go_keep)))
       ((go_at_call 30; (with_reducible refine (K9.out _ (by first | assumption | (go_split_ands; assumption))).mono ?_); rintro e w2 ⟨rfl, hq⟩))
      go_split_ands
      have hend : Below wr.heap.size wr w2 := by assumption
      go_wp2
      go_ret2
      obtain ⟨q1, q2⟩ := pq9 HR.out H.out
      exact ⟨by rw [q1, q2, HIE.out]; rfl, below_on HB.out (below_on HBR.out hend)⟩
   ·
    obtain ⟨hnk⟩ : c.n = k := by omega
    have HAN := Lib.hid (show c.is.any (nzI L c) = false by have h9 := HALL.out; rw [List.take_of_length_le (by rw [OK.out.c9.il]; exact Nat.le_refl _)] at h9; exact h9)
    clear hiw
    have hszn := szn HE.out
    obtain ⟨q, hq⟩ : ∃ q : Nat, c.n = q + 1 := ⟨c.n - 1, by omega⟩
    obtain ⟨i, hi⟩ := get_someF (l := c.is) (k := q) (by rw [OK.out.c9.il]; omega)
    have hw1 : IntKind.i64.wrap ((c.n : Int) - 1) = (q : Int) := by simp [IntKind.wrap, IntKind.bits, IntKind.signed]; omega
    have HLT := Lib.hid (show lastT c = termB i.op by unfold lastT; rw [hq, Nat.add_sub_cancel, hi])
    have hqn : (c.n : Int) - 1 = (q : Int) := by omega
    have hqb : q < c.n := by omega
    clear hq
    have hiw := OKr.out.c9.iw
    rw [HIA.out] at hiw
    rcases hiw with h0 | ⟨g, o, rfl, hg, hcell⟩
    ·
     rw [h0] at hi; simp at hi
    ·
     obtain ⟨_, a0, _⟩ := hcell q _ hi
     clear hcell hi
     have hq0 : (0 : Int) ≤ (q : Int) := by omega
     have hq1 : (q : Int) < (c.n : Int) := by omega
     have HQN := Lib.hid hqn
     clear hqb hszn hqn
     cases htm : termB i.op with
     | false =>
      have HTM := Lib.hid htm
      have H := Lib.hid (cc_3 (ms := ms) (ls := ls) HE.out HAN.out (by rw [HLT.out]; exact htm))
      clear htm
      go_wp2_with (go_at_call 31; refine (rterm_any _ _).mono ?_; rintro e w' ⟨rfl, rfl⟩; rw [HTM.out])
      go_ret2
      obtain ⟨q1, q2⟩ := pq9 HR.out H.out
      exact ⟨by rw [q1, q2, HQN.out]; rfl, below_on HB.out HBR.out⟩
     | true =>
      have HTM := Lib.hid htm
      have HLS := Lib.hid (show lastT c = true by rw [HLT.out]; exact htm)
      clear htm
      have K8 := Lib.hid (by
       have h8 := r9rest_any (cap := cap) c ms ls wr HVV.out HF.out HN.out hN HPr.out OKr.out HE.out HAN.out HLS.out
       rw [HIA.out, HR.out] at h8
       exact h8)
      go_wp2_with (first | (go_at_call 31; refine (rterm_any _ _).mono ?_; rintro e w' ⟨rfl, rfl⟩; rw [HTM.out]) | (go_at_call 32; (with_reducible refine K8.out.mono ?_); rintro e w3 ⟨rfl, hb3⟩))
      go_ret2
      exact ⟨rfl, below_on HB.out (below_on HBR.out hb3)⟩
 ·
  have H := Lib.hid (cc_1 (ms := ms) (ls := ls) (show ¬ szE L c = 0 by rw [HSZ.out]; exact hE))
  have es : (sz != 0) = true := by simpa using hE
  go_wp2_with (go_at_call 29; refine (r9head_any c _ HS.out HN.out hN HP1.out OK1.out.c9).mono ?_; rintro e w1 ⟨rfl, hb1⟩; rw [HSZ.out])
  go_ret2
  obtain ⟨q1, q2⟩ := pq9 HR.out H.out
  exact ⟨by rw [q1, q2, HSZ.out]; rfl, below_on hB hb1⟩
end Go.Proofs.YtalejaklggnnpaaGreatDoor.I
