/- Layer 42: the reference's hand in memory: set, kinds. -/
import Derived.Test.YtgiglbjkijlchaaRn
namespace Go.Proofs.Ytgiglbjkijlchaa
open Go.ChangeShapes Go.WideShapes Go.ChangeAt Go.RowKit Go.PlainAid
set_option linter.unusedSimpArgs false
set_option linter.unusedVariables false

theorem locRS_ls (n k : Int) (r : Rs) : (locRS n k r).ls = r.ls := by unfold locRS; split; exact failS_ls _ _; split; exact failS_ls _ _; rfl
theorem locRS_ss (n k : Int) (r : Rs) : (locRS n k r).ss = r.ss := by unfold locRS; split; exact failS_ss _ _; split; exact failS_ss _ _; rfl
theorem setRS_ls (n : Int) (v : Va) (r : Rs) : (setRS n v r).ls.length = r.ls.length := by unfold setRS; split; rw [locRS_ls]; exact List.length_set
theorem setRS_ss (n : Int) (v : Va) (r : Rs) : (setRS n v r).ss = r.ss := by unfold setRS; split; exact locRS_ss _ _ _; rfl
theorem nil_of_len {L M : List Va} (h : M.length = L.length) : L = [] → M = [] := fun e => List.length_eq_zero_iff.1 (by rw [h, e]; rfl)
theorem setRS_in {n : Int} {v : Va} {r : Rs} (h : ¬ (locRS n 0 r).e ≠ 0) : locRS n 0 r = r ∧ ∃ j : Nat, n = (j : Int) ∧ j < r.ls.length ∧ setRS n v r = { r with ls := r.ls.set j v } := by
  have h0 : (locRS n 0 r).e = 0 := Classical.byContradiction h
  have hS : setRS n v r = { r with ls := r.ls.set n.toNat v } := if_neg h
  cases hp : atV n r.ls with
  | none =>
    have : locRS n 0 r = failS 21 r := by unfold locRS; rw [hp]
    rw [this] at h0
    unfold failS at h0
    split at h0
    · exact absurd h0 (by decide : (21 : Int) ≠ 0)
    · rename_i g; exact absurd h0 g
  | some p =>
    have hn : ¬ n < 0 := fun g => by unfold atV at hp; rw [if_pos g] at hp; cases hp
    refine ⟨by unfold locRS; rw [hp]; exact if_neg (fun g => g.1 rfl), n.toNat, by omega, ?_, hS⟩
    unfold atV at hp
    rw [if_neg hn] at hp
    exact get_ltF hp
set_option maxRecDepth 100000 in
set_option maxHeartbeats 1000000 in
theorem hset_any {w0 W : World} {b : Nat} {h : Hd8} {r : Rs} {lA : Option Addr} {lc : Nat} {sA : Option Addr} {sc : Nat} (i : In) (x y : Int) (H : HdSt w0 W b h r lA lc sA sc) (hlb : r.ls.length ≤ 1000000) :
    Calls Try.prog 45 #[.pointer (some ⟨b, 0, none⟩), (Value.agg #[Value.int IntKind.i64 (In.op i), Value.int IntKind.i64 (In.a i), Value.int IntKind.i64 (In.b i), Value.int IntKind.i64 (In.t i), Value.slice (In.kA i) (In.kn i) (In.kc i), Value.slice (In.tA i) (In.tn i) (In.tc i), Value.string (In.r1 i), Value.string (In.r2 i), Value.string (In.r3 i), Value.string (In.s i)]), .agg #[.int .i64 x, .int .i64 y]] W (HdEx w0 W b h r (setRS i.a (x, y) r) lA sA (.tuple #[])) := by
  have HH := Lib.hid H
  go_enter Try.func45, Try.ntmps45
  go_upto_region 1 with fail
  have R0 := laid_old (o' := (.cells #[.int .i64 x, .int .i64 y] 42)) (World.alloc_heap_new W (.cells #[.int .i64 i.op, .int .i64 i.a, .int .i64 i.b, .int .i64 i.t, .slice i.kA i.kn i.kc, .slice i.tA i.tn i.tc, .string i.r1, .string i.r2, .string i.r3, .string i.s] 29))
  have R1 := World.alloc_heap_new (W.alloc (.cells #[.int .i64 i.op, .int .i64 i.a, .int .i64 i.b, .int .i64 i.t, .slice i.kA i.kn i.kc, .slice i.tA i.tn i.tc, .string i.r1, .string i.r2, .string i.r3, .string i.s] 29)) (.cells #[.int .i64 x, .int .i64 y] 42)
  have hsz : (W.alloc (.cells #[.int .i64 i.op, .int .i64 i.a, .int .i64 i.b, .int .i64 i.t, .slice i.kA i.kn i.kc, .slice i.tA i.tn i.tc, .string i.r1, .string i.r2, .string i.r3, .string i.s] 29)).heap.size = W.heap.size + 1 := by simp
  rw [hsz] at R1
  have hlt2 : W.heap.size + 2 ≤ ((W.alloc (.cells #[.int .i64 i.op, .int .i64 i.a, .int .i64 i.b, .int .i64 i.t, .slice i.kA i.kn i.kc, .slice i.tA i.tn i.tc, .string i.r1, .string i.r2, .string i.r3, .string i.s] 29)).alloc (.cells #[.int .i64 x, .int .i64 y] 42)).heap.size := by simp
  have hB := below_al (below_al (Below.refl W.heap.size W) (.cells #[.int .i64 i.op, .int .i64 i.a, .int .i64 i.b, .int .i64 i.t, .slice i.kA i.kn i.kc, .slice i.tA i.tn i.tc, .string i.r1, .string i.r2, .string i.r3, .string i.s] 29)) (.cells #[.int .i64 x, .int .i64 y] 42)
  generalize (W.alloc (.cells #[.int .i64 i.op, .int .i64 i.a, .int .i64 i.b, .int .i64 i.t, .slice i.kA i.kn i.kc, .slice i.tA i.tn i.tc, .string i.r1, .string i.r2, .string i.r3, .string i.s] 29)).alloc (.cells #[.int .i64 x, .int .i64 y] 42) = W1 at R0 R1 hB hlt2 ⊢
  have HH1 := Lib.hid (HH.out.up hB)
  have HB1 := Lib.hid hB
  have HR0 := Lib.hid R0
  have HR1 := Lib.hid R1
  have HL := Lib.hid (hloc_any i 0 HH1.out hlb)
  obtain ⟨r0, r1, r2, r3, r4, r5, r6, r7, r8, r9⟩ := ten_cells R0
  have y0 := lt_heapV R0
  have y1 := lt_heapV R1
  have hz := lt_heapV HH.out.box
  clear R0 R1 hB hsz H
  obtain ⟨er, her⟩ : ∃ er, (locRS i.a 0 r).e = er := ⟨_, rfl⟩
  have HER := Lib.hid her
  clear her
  go_upto_region 2 with (go_at_call 43; refine HL.out.mono ?_; rintro e w3 ⟨rfl, hr3, hk3⟩)
  have hc8 := (nine_cells hr3.box).2.2.2.2.2.2.2.2
  rw [HER.out] at hc8
  have HR3 := Lib.hid hr3
  have hz3 := lt_heapV hr3.box
  have hs3 := hk3.size
  have x0 := (hk3.block W.heap.size y0 (by omega)).trans HR0.out
  have x1 := (hk3.block (W.heap.size + 1) y1 (by omega)).trans HR1.out
  have HK3 := Lib.hid ((Kb.of_below HB1.out).trans hk3)
  have HX0 := Lib.hid x0
  have HX1 := Lib.hid x1
  clear r0 r1 r2 r3 r4 r5 r6 r7 r8 r9 hr3 hk3 x0 x1
  by_cases he : er = 0
  · obtain ⟨e1, j, hj, hjm, hS⟩ := setRS_in (v := (x, y)) (n := i.a) (r := r) (by rw [HER.out]; exact fun g => g he)
    rw [he] at hc8
    obtain ⟨m, hm⟩ : ∃ m, r.ls.length = m := ⟨_, rfl⟩
    have hr3 := HR3.out
    rw [e1] at hr3
    have HR3 := Lib.hid hr3
    have hc3 := (nine_cells hr3.box).2.2.2.1
    rw [hm] at hc3 hjm hlb
    have HM := Lib.hid hm
    have HJ := Lib.hid hj
    have HS := Lib.hid hS
    have hj0 : (0 : Int) ≤ (j : Int) := by omega
    have hj1 : (j : Int) < (m : Int) := by omega
    have HO0 := Lib.hid (own_lit0V (w := w3) (Nat.le_refl _))
    have HLR := Lib.hid (hr3.loc.up (below_al (Below.refl _ _) (.cells #[] 42)))
    have HLN := Lib.hid hr3.ll.2
    clear hr3 e1 hm hj hS he
    go_upto_region 4 with (at_builtin; refine wpList_app_any (by rfl) _ _ (by rfl) w3.heap.size 0 m lc [] r.ls _ _ (by rfl) HO0.out (by rfl) HM.out HLR.out HLN.out (by omega) (by simp) ?_; intro v4 w4 ho4 hg4; rw [Nat.zero_add, List.nil_append] at ho4; have HO4 := Lib.hid ho4; have HB4 := Lib.hid ((below_al (Below.refl w3.heap.size w3) _).trans (grown_below hg4 (fun k hk => Nat.le_of_eq (Option.some.inj hk)) (by simp))); clear ho4 hg4)
    obtain ⟨gl, cl, rfl, hgl, hglw⟩ := HO4.out.form (by omega)
    have hs4 := HB4.out.size
    obtain ⟨p, hp⟩ := get_someF (l := r.ls) (k := j) (by rw [HM.out]; exact hjm)
    have hd0 := HO4.out.cellAt (j * 2) (by omega)
    have hd1 := HO4.out.cellAt (j * 2 + 1) (by omega)
    rw [(prow_at _ _ _ hp).1] at hd0
    rw [(prow_at _ _ _ hp).2] at hd1
    have hf0 := HO4.out.frozenAt (j * 2)
    have hf1 := HO4.out.frozenAt (j * 2 + 1)
    have r1 := (ten_cells ((HB4.out.block _ (by omega)).trans HX0.out)).2.1
    rw [HJ.out] at r1
    obtain ⟨t0, t1⟩ := two_cellsV ((HB4.out.block _ (by omega)).trans HX1.out)
    have hbx := (HB4.out.block b hz3).trans HR3.out.box
    rw [HM.out] at hbx
    have HBX := Lib.hid hbx
    have hf3 := frozV hbx 3
    have hc3 := (nine_cells hbx).2.2.2.1
    have hz4 := lt_heapV hbx
    have hgb : gl ≠ b := by omega
    have hs0 := HO4.out.stored (j * 2) (.int .i64 x)
    have hs1 := hs0.1.stored (j * 2 + 1) (.int .i64 y)
    have hg2 := grown_two hs0.2 hs1.2
    have ho6 := hs1.1
    rw [← prow_set r.ls j (x, y)] at ho6
    have HO6 := Lib.hid ho6
    have HG2 := Lib.hid hg2
    have hbx6 := (hg2.block b hz4 (fun e => hgb (Option.some.inj e).symm)).trans hbx
    have HBX6 := Lib.hid hbx6
    have hset := heap_setCell_same _ b 3 _ _ (.slice (some ⟨gl, 0, none⟩) m cl) hbx6
    have HSET := Lib.hid hset
    clear hp hs0 hs1 hg2 ho6 hbx6 hset hbx
    go_wp2
    go_end0
    rw [HS.out]
    obtain ⟨_, _, hv6, hc6, _, _⟩ := own_formV HO6.out
    injection hv6 with _ _ hv6
    subst hv6
    have hb6 := HB4.out.trans (grown_below HG2.out (fun k hk => by have e2 : gl = k := Option.some.inj hk; omega) HB4.out.size)
    obtain ⟨h1, h2⟩ := HR3.out.reloc hb6 (VRow.of_own HO6.out).1 (by rw [List.length_set]; exact HM.out) (fun g o s hA _ e => by injection hA with hA; injection hA with hA _ _; omega) ⟨hc6, fun h => by cases h⟩ grown_setV HSET.out
    exact ⟨rfl, HK3.out.trans h2, _, _, _, _, h1, Or.inr (fun g o s hA => by injection hA with hA; injection hA with hA _ _; omega), Nz.refl _ _ _⟩
  · have hne : (er == 0) = false := by simpa using he
    have HV := Lib.hid (show setRS i.a (x, y) r = locRS i.a 0 r from if_pos (by rw [HER.out]; exact he))
    clear he
    go_wp2
    go_end0
    rw [HV.out]
    exact ⟨rfl, HK3.out, _, _, _, _, HR3.out, Or.inl ⟨rfl, fun g => by rw [locRS_ls]; exact g⟩, Or.inl ⟨rfl, fun g => by rw [locRS_ss]; exact g⟩⟩
set_option maxRecDepth 100000 in
theorem kinds_any (n : Nat) (w : World) (hn : n < 3) : Calls Try.prog 44 #[.int .i64 n] w fun e w' => e = .returned (.int .i64 ((n : Int) + 1)) ∧ Below w.heap.size w w' := by
  have h3 : n = 0 ∨ n = 1 ∨ n = 2 := by omega
  rcases h3 with rfl | rfl | rfl
  all_goals
    go_enter Try.func44, Try.ntmps44
    go_wp2
    go_ret
    exact ⟨rfl, below_al (Below.refl _ _) _⟩
end Go.Proofs.Ytgiglbjkijlchaa
