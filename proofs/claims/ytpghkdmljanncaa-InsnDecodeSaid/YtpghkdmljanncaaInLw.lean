/- Layer 8: small; the law of Check and Targets. -/
import Derived.Test.YtpghkdmljanncaaInWks
import Derived.Deep.RegionHeld3
namespace Go.Proofs.Ytpghkdmljanncaa
open Go.ChangeShapes Go.WideShapes Go.ChangeAt Go.RowKit Go.PlainAid
set_option linter.unusedSimpArgs false
set_option linter.unusedVariables false

theorem eqs_same {w : World} {B B' c d : Nat} {A A' : Option Addr} {L : List Int} (hx : Row w B A L) (hy : Row w B' A' L) (h1 : L.length ≤ 1000000) : Calls Try.prog 18 #[.slice A L.length c, .slice A' L.length d] w fun e w' => e = .returned (.bool true) ∧ Below w.heap.size w w' := by
  refine (eqs_any hx rfl hy rfl h1 h1).mono ?_
  rintro e w' ⟨rfl, q, rfl⟩
  exact ⟨by rw [beq_self_eq_true], below_dr (Below.refl _ _) q⟩
def Small (L : List In) : Prop := L.length ≤ 60 ∧ ∀ i ∈ L, i.kn ≤ 80 ∧ i.tn ≤ 80
def SmallRet (w : World) (L : List In) (e : Ending) (w' : World) : Prop := ∃ b, e = .returned (.bool b) ∧ (b = true → Small L) ∧ w = w'
set_option maxRecDepth 100000 in
theorem small_any {w0 : World} {A : Option Addr} {n c : Nat} {L : List In} (hn : L.length = n) (hp : Ins w0 w0.heap.size A L) (w : World) (hb : Below w0.heap.size w0 w) :
    Calls Try.prog 14 #[.slice A n c] w (SmallRet w L) := by
  have HP := Lib.hid (hp.up hb)
  have HN := Lib.hid hn
  clear hp hb hn
  by_cases h1 : 60 < n
  · go_enter Try.func14, Try.ntmps14
    go_wp2
    go_ret
    exact ⟨false, rfl, (fun h => by cases h), rfl⟩
  · go_enter Try.func14, Try.ntmps14
    go_wp2
    go_loopw [3] (fun x wr => ∃ k : Nat, k ≤ n ∧ x = .int .i64 k ∧ (∀ (j : Nat) (i : In), j < k → L[j]? = some i → i.kn ≤ 80 ∧ i.tn ≤ 80) ∧ wr = w) (fun x _ => n - (intOf x).toNat)
    case atStart => exact ⟨0, Nat.zero_le _, rfl, fun j i hj => absurd hj (Nat.not_lt_zero _), rfl⟩
    case round =>
      obtain ⟨k, hk, rfl, hall, rfl⟩ := hrel
      have HA := Lib.hid hall
      clear hall
      by_cases hlt : k < n
      · obtain ⟨i, hp⟩ := list_get HN.out hlt
        rcases HP.out with h0 | ⟨g, o, rfl, hg, hcell⟩
        · rw [h0] at hp; simp at hp
        · obtain ⟨iok, a0, a1, a2, a3, a4, a5, a6, a7, a8, a9⟩ := hcell k _ hp
          have HPK := Lib.hid hp
          have hk0 : (0 : Int) ≤ (k : Int) := by omega
          have hk1 : (k : Int) < (n : Int) := by omega
          clear hcell iok hp
          by_cases h3 : 80 < i.kn
          · go_wp2
            go_ret
            exact ⟨false, rfl, (fun h => by cases h), rfl⟩
          · by_cases h4 : 80 < i.tn
            · go_wp2
              go_ret
              exact ⟨false, rfl, (fun h => by cases h), rfl⟩
            · go_wp2
              refine ⟨⟨k + 1, hlt, by go_num, fun j x hj hx => ?_, trivial⟩, by simp [intOf]; omega⟩
              rcases (by omega : j < k ∨ j = k) with h | rfl
              · exact HA.out j x h hx
              · rw [HPK.out] at hx
                injection hx with hx
                rw [← hx]; omega
      · obtain ⟨rfl⟩ : n = k := by omega
        go_wp2
        go_ret
        refine ⟨true, rfl, fun _ => ⟨by rw [HN.out]; omega, fun i hi => ?_⟩, rfl⟩
        obtain ⟨j, hj, he⟩ := List.getElem_of_mem hi
        exact HA.out j i (by rw [HN.out] at hj; exact hj) (by rw [List.getElem?_eq_getElem hj, he])

set_option maxRecDepth 100000 in
set_option maxHeartbeats 4000000 in
theorem check_law (i : In) (w : World) (hok : i.ok w w.heap.size) (hz : i.nz) : Calls Try.prog 3 #[(Value.agg #[Value.int IntKind.i64 (In.op i), Value.int IntKind.i64 (In.a i), Value.int IntKind.i64 (In.b i), Value.int IntKind.i64 (In.t i), Value.slice (In.kA i) (In.kn i) (In.kc i), Value.slice (In.tA i) (In.tn i) (In.tc i), Value.string (In.r1 i), Value.string (In.r2 i), Value.string (In.r3 i), Value.string (In.s i)])] w fun e w' => e = .returned (.bool true) ∧ Below w.heap.size w w' := by
  have hB : Below w.heap.size w w := Below.refl _ _
  have OK := Lib.hid hok
  have HZ := Lib.hid hz
  clear hok hz
  go_enter Try.func3, Try.ntmps3
  go_upto_region 1 with fail
  have R := World.alloc_heap_new w (.cells #[.int .i64 i.op, .int .i64 i.a, .int .i64 i.b, .int .i64 i.t, .slice i.kA i.kn i.kc, .slice i.tA i.tn i.tc, .string i.r1, .string i.r2, .string i.r3, .string i.s] 26)
  replace hB := below_al hB (.cells #[.int .i64 i.op, .int .i64 i.a, .int .i64 i.b, .int .i64 i.t, .slice i.kA i.kn i.kc, .slice i.tA i.tn i.tc, .string i.r1, .string i.r2, .string i.r3, .string i.s] 26)
  generalize w.alloc (.cells #[.int .i64 i.op, .int .i64 i.a, .int .i64 i.b, .int .i64 i.t, .slice i.kA i.kn i.kc, .slice i.tA i.tn i.tc, .string i.r1, .string i.r2, .string i.r3, .string i.s] 26) = W1 at R hB ⊢
  obtain ⟨r0, r1, r2, r3, r4, r5, r6, r7, r8, r9⟩ := ten_cells R
  have y1 := lt_heap R
  replace R := Lib.hid R
  have hN := World.alloc_heap_new W1 (.cells (irow [i]).toArray 26)
  have HS := Lib.hid (small_any (c := 1) (n := 1) rfl (ins_new (L := [i]) hN (fun j hj => by obtain rfl := List.mem_singleton.1 hj; exact OK.out.up (below_al hB _))) _ (Below.refl _ _))
  clear hN
  have hB2 := below_al hB (.cells (irow [i]).toArray 26)
  go_upto_region 2 with (go_at_call 14; refine HS.out.mono ?_; rintro e w2 ⟨b, rfl, hsm, rfl⟩; have HSM := Lib.hid hsm; clear hsm)
  · go_wp2_with (go_at_call 15; refine (works_any _).mono ?_; rintro e w3 ⟨rfl, hb3⟩)
    go_ret
    exact ⟨rfl, below_on hB2 hb3⟩
  · have hbb : (!b) = false := by assumption
    obtain rfl : b = true := by simpa using hbb
    have hsm := HSM.out rfl
    have htn : i.tn ≤ 1000000 := by have := (hsm.2 i List.mem_cons_self).2; omega
    have htl : (tgL i).length ≤ 1000000 := by
      have h4 := OK.out.2.2.2.2.1
      have := tgL_len (i := i) (by have := (hsm.2 i List.mem_cons_self).2; omega)
      omega
    have hR2 := (laid_old R.out : (W1.alloc (.cells (irow [i]).toArray 26)).heap[w.heap.size]? = _)
    have hy2 := lt_heap hR2
    clear hsm HSM HS
    generalize W1.alloc (.cells (irow [i]).toArray 26) = W2 at hR2 hy2 hB2 ⊢
    clear r0 r1 r2 r3 r4 r5 r6 r7 r8 r9 hB
    obtain ⟨r0, r1, r2, r3, r4, r5, r6, r7, r8, r9⟩ := ten_cells hR2
    clear hR2 R y1
    go_region_held3 (fun w' => w'.cell? ⟨w.heap.size, 0, none⟩ = some (.int .i64 i.op) ∧ w'.cell? ⟨w.heap.size, 1, none⟩ = some (.int .i64 i.a) ∧ w'.cell? ⟨w.heap.size, 2, none⟩ = some (.int .i64 i.b) ∧ w'.cell? ⟨w.heap.size, 3, none⟩ = some (.int .i64 i.t) ∧ w'.cell? ⟨w.heap.size, 4, none⟩ = some (.slice i.kA i.kn i.kc) ∧ w'.cell? ⟨w.heap.size, 5, none⟩ = some (.slice i.tA i.tn i.tc) ∧ w'.cell? ⟨w.heap.size, 6, none⟩ = some (.string i.r1) ∧ w'.cell? ⟨w.heap.size, 7, none⟩ = some (.string i.r2) ∧ w'.cell? ⟨w.heap.size, 8, none⟩ = some (.string i.r3) ∧ w'.cell? ⟨w.heap.size, 9, none⟩ = some (.string i.s) ∧ w.heap.size < w'.heap.size ∧ Below w.heap.size w w') (((try go_split_ands); (repeat' apply And.intro) <;> (first | assumption | (first | exact below_on (w := w) (by assumption) hq | exact Below.drew (by assumption) | assumption) | exact (Below.cell hq (by first | omega | (simp; omega))).trans (by assumption) | (have := hq.size; omega) | (simp; omega) | go_keep)))
      (first | (go_at_call 16; refine (chk_any i _ (OK.out.up (by first | assumption | (go_split_ands; assumption)))).mono ?_; rintro e w2 ⟨rfl, hq⟩; (try replace HR1 := Lib.hid (HR1.out.up hq)); (try replace HR2 := Lib.hid (HR2.out.up hq))) | (go_at_call 17; refine (rchk_any i _ (OK.out.up (by first | assumption | (go_split_ands; assumption)))).mono ?_; rintro e w2 ⟨rfl, hq⟩; (try replace HR1 := Lib.hid (HR1.out.up hq)); (try replace HR2 := Lib.hid (HR2.out.up hq))) | (go_at_call 19; refine (tg_any i _ (OK.out.up (by first | assumption | (go_split_ands; assumption))) HZ.out htn).mono ?_; rintro e w2 ⟨A1, c1, rfl, _, _, _, hr1, hq⟩; (try replace HR1 := Lib.hid (HR1.out.up hq)); (try replace HR2 := Lib.hid (HR2.out.up hq)); have HR1 := Lib.hid hr1; clear hr1) | (go_at_call 20; refine (rtg_any i _ (OK.out.up (by first | assumption | (go_split_ands; assumption))) HZ.out htn).mono ?_; rintro e w2 ⟨A2, c2, rfl, _, _, _, hr2, hq⟩; (try replace HR1 := Lib.hid (HR1.out.up hq)); (try replace HR2 := Lib.hid (HR2.out.up hq)); have HR2 := Lib.hid hr2; clear hr2) | (go_at_call 18; refine (eqs_same HR1.out HR2.out htl).mono ?_; rintro e w2 ⟨rfl, hq⟩) | (go_at_call 15; refine (works_any _).mono ?_; rintro e w2 ⟨rfl, hq⟩; (try replace HR1 := Lib.hid (HR1.out.up hq)); (try replace HR2 := Lib.hid (HR2.out.up hq))))
    all_goals (go_split_ands; go_wp2; go_ret; exact ⟨rfl, by assumption⟩)

end Go.Proofs.Ytpghkdmljanncaa
