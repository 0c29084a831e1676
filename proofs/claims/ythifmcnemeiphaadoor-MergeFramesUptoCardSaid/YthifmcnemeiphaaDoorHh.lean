/- Layer 16: Lookup, in the package and in its reference (written by gen/hh.py). -/
import Derived.Test.YthifmcnemeiphaaDoorHg
import Derived.Laws.ResultCell
import Derived.Laws.Rows
namespace Go.Proofs.YthifmcnemeiphaaDoor
open Go.ChangeShapes Go.WideShapes Go.ChangeAt Go.RowKit Go.PlainAid Go.Maps
set_option linter.unusedSimpArgs false
set_option linter.unusedVariables false

def zeroCI : CI := ⟨⟨#[]⟩, ⟨#[]⟩, none, 0, 0, [], false⟩
/-- the first entry with a name, or the zero entry -/
def lkC (L : List CI) (s : ByteArray) : CI := (L[fnd L s]?).getD zeroCI
theorem lkC_yes {L : List CI} {s : ByteArray} (h : fnd L s < L.length) : lkC L s = L[fnd L s] := by unfold lkC; rw [List.getElem?_eq_getElem h]; rfl
theorem lkC_no {L : List CI} {s : ByteArray} (h : ¬ fnd L s < L.length) : lkC L s = zeroCI := by unfold lkC; rw [List.getElem?_eq_none (by omega)]; rfl
theorem lk_hit {L : List CI} {s : ByteArray} {k : Nat} (hk : k < L.length) (h1 : ∀ j (hj : j < k), ¬ (L[j]'(by omega)).nm.toList = s.toList) (h2 : L[k].nm.toList = s.toList) : lkC L s = L[k] ∧ fB L s = true := by
  have := fnd_at hk h1 h2
  have hl : fnd L s < L.length := by rw [this]; exact hk
  refine ⟨?_, fB_of hl⟩
  rw [lkC_yes hl]
  congr 1
theorem lk_miss {L : List CI} {s : ByteArray} (h1 : ∀ j (hj : j < L.length), ¬ L[j].nm.toList = s.toList) : lkC L s = zeroCI ∧ fB L s = false := by
  have := fnd_none h1
  have hl : ¬ fnd L s < L.length := by omega
  exact ⟨lkC_no hl, decide_eq_false hl⟩
theorem lkC_ok {L : List CI} {A : Option Addr} {w : World} (h : CIs w w.heap.size A L) (s : ByteArray) : (lkC L s).ok w w.heap.size := by
  by_cases hl : fnd L s < L.length
  · rw [lkC_yes hl]; exact h.ok (List.getElem_mem hl)
  · rw [lkC_no hl]; exact ⟨by decide, by decide, rfl, Nat.le_refl _, by decide, Or.inl rfl, (fun s hs => by cases hs), fun _ => rfl⟩
abbrev rootL : List UInt8 := [108, 97, 110, 103, 47, 79, 98, 106, 101, 99, 116]
def ifOk (L : List CI) (s : ByteArray) : Bool := fB L s && (lkC L s).isI
theorem ci_in {w W : World} {x : CI} {j : Nat} (hok : x.ok w w.heap.size) (hb : Below w.heap.size w W) (hj : j < x.fs.length) :
    ∃ g o, x.iA = some ⟨g, o, none⟩ ∧ W.cell? ⟨g, o + j, none⟩ = some (.string x.fs[j]) ∧ x.fs[j].size ≤ 9223372036854775807 := by
  obtain ⟨g, o, h1, h2, h3⟩ := hok.2.2.2.2.2.1.at (by omega)
  exact ⟨g, o, h1, (hb.cell (p := ⟨g, o + j, none⟩) h2).trans (h3 j hj), hok.2.2.2.2.2.2.1 _ (List.getElem_mem hj)⟩
theorem lt_of_some {α : Type} {l : List α} {k : Nat} {y : α} (h : l[k]? = some y) : k < l.length := by
  rcases Nat.lt_or_ge k l.length with h' | h'
  · exact h'
  · rw [List.getElem?_eq_none h'] at h; cases h
theorem ci_size : (Tryd.prog.info? 30).map (·.size) = some 4 := by kernel_rfl
theorem ci_under : ∃ fs, Tryd.prog.underlying 30 = some (.struct fs) := ⟨_, Tryd.underlying30⟩
theorem set_four {w : World} {B : Nat} {t : TypeId} {x0 x1 x2 x3 a b c d : Value} (hh : w.heap[B]? = some (.cells #[x0, x1, x2, x3] t)) :
    ((((w.setCell ⟨B, 0, none⟩ a).setCell ⟨B, 1, none⟩ b).setCell ⟨B, 2, none⟩ c).setCell ⟨B, 3, none⟩ d).heap[B]? = some (.cells #[a, b, c, d] t) := by
  have h0 := heap_setCell_same w B 0 _ _ a hh
  generalize w.setCell ⟨B, 0, none⟩ a = w0 at h0 ⊢
  have h1 := heap_setCell_same w0 B 1 _ _ b h0
  generalize w0.setCell ⟨B, 1, none⟩ b = w1 at h1 ⊢
  have h2 := heap_setCell_same w1 B 2 _ _ c h1
  generalize w1.setCell ⟨B, 2, none⟩ c = w2 at h2 ⊢
  exact heap_setCell_same w2 B 3 _ _ d h2
theorem lk_ret {fn : Func} (hf : fn.results = #[.cell 4 30, .tmp 5]) {a : Act} {w : World} {B : Nat} {x0 x1 x2 x3 : Value} (ht : a.tmps.getD 4 undef = .pointer (some ⟨B, 0, none⟩)) (hg : w.heap[B]? = some (.cells #[x0, x1, x2, x3] 30)) :
    (results fn a.tmps).run Tryd.prog w = .ok (.tuple #[.agg #[x0, x1, x2, x3], a.tmps.getD 5 undef]) w := by
  rw [results_cell_tmp hf, ht]
  obtain ⟨fs, hu⟩ := ci_under
  have hl := run_loadVar_row (P := Tryd.prog) w B 30 30 #[x0, x1, x2, x3] (0, 0) _ hg hu rfl ci_size
  simp [asAddr, Result.andThen, hl]
set_option maxRecDepth 100000 in
set_option maxHeartbeats 1000000 in
theorem lookup_any (A : Option Addr) (n c : Nat) (L : List CI) (s : ByteArray) (w : World) (hn : L.length = n) (hc : n ≤ 9223372036854775807) (h : CIs w w.heap.size A L) :
    Calls Tryd.prog 20 #[.slice A n c, .string s] w fun e w' => e = .returned (.tuple #[(Value.agg #[Value.string (CI.nm (lkC L s)), Value.string (CI.su (lkC L s)), Value.slice (CI.iA (lkC L s)) (CI.n (lkC L s)) (CI.c (lkC L s)), Value.bool (CI.isI (lkC L s))]), .bool (fB L s)]) ∧ Below w.heap.size w w' := by
  have HL := Lib.hid h
  have HN := Lib.hid hn
  clear h hn
  go_enter Tryd.func20, Tryd.ntmps20
  go_upto_region 1 with fail
  have hb0 := World.alloc_heap_new w (.cells #[.string ⟨#[]⟩, .string ⟨#[]⟩, .slice none 0 0, .bool false] 30)
  have hB := below_al (Below.refl w.heap.size w) (.cells #[.string ⟨#[]⟩, .string ⟨#[]⟩, .slice none 0 0, .bool false] 30)
  generalize w.alloc (.cells #[.string ⟨#[]⟩, .string ⟨#[]⟩, .slice none 0 0, .bool false] 30) = W at hb0 hB ⊢
  obtain ⟨⟨x0, x1, x2, x3⟩, y0, y1, y2, y3⟩ := four_cells hb0
  have HB0 := Lib.hid hb0
  have HBL := Lib.hid hB
  have hlt := lt_heap hb0
  clear hb0 hB
  go_wp2
  go_loop [9] (fun i => ∃ k : Nat, k ≤ n ∧ i = .int .i64 k ∧ Hid (∀ j (hj : j < k) (hl : j < L.length), ¬ L[j].nm.toList = s.toList)) (fun i => n - (intOf i).toNat)
  case atStart => exact ⟨0, Nat.zero_le _, rfl, Lib.hid fun j hj => absurd hj (Nat.not_lt_zero _)⟩
  case round =>
    obtain ⟨k, hk, rfl, hv⟩ := hrel
    by_cases hlt : k < n
    · have hkl : k < L.length := by rw [HN.out]; exact hlt
      obtain ⟨g, o, rfl, hg, hok, c0, c1, c2, c3⟩ := (HL.out.below HBL.out).at hkl
      clear hok
      by_cases hq : L[k].nm.toList = s.toList
      · have HR := Lib.hid (lk_hit hkl (fun j hj => hv.out j hj (by omega)) hq)
        go_wp2
        refine bodyPost_ret (lk_ret rfl rfl (set_four HB0.out)) rfl ⟨?_, ?_⟩
        · rw [HR.out.1, HR.out.2]; rfl
        · exact below_st (below_st (below_st (below_st HBL.out (Nat.le_refl _) _) (Nat.le_refl _) _) (Nat.le_refl _) _) (Nat.le_refl _) _
      · have HV := Lib.hid (show ∀ j (hj : j < k + 1) (hl : j < L.length), ¬ L[j].nm.toList = s.toList from fun j hj hl => by
          rcases Nat.lt_or_ge j k with h | h
          · exact hv.out j h hl
          · obtain rfl : j = k := by omega
            exact hq)
        have hne : (L[k].nm.toList == s.toList) = false := by simpa using hq
        clear hq
        go_wp2
        go_round
        case rel => exact ⟨k + 1, by omega, by go_num, HV⟩
        case measure => simp [intOf]; omega
    · obtain rfl : k = n := by omega
      have HR := Lib.hid (lk_miss (L := L) (s := s) fun j hj => hv.out j (by rw [← HN.out]; exact hj) hj)
      go_wp2
      refine bodyPost_ret (lk_ret rfl rfl (set_four HB0.out)) rfl ⟨?_, ?_⟩
      · rw [HR.out.1, HR.out.2]; rfl
      · exact below_st (below_st (below_st (below_st HBL.out (Nat.le_refl _) _) (Nat.le_refl _) _) (Nat.le_refl _) _) (Nat.le_refl _) _
set_option maxRecDepth 100000 in
set_option maxHeartbeats 1000000 in
theorem rlookup_any (A : Option Addr) (n c : Nat) (L : List CI) (s : ByteArray) (w : World) (hn : L.length = n) (hc : n ≤ 9223372036854775807) (h : CIs w w.heap.size A L) :
    Calls Tryd.prog 21 #[.slice A n c, .string s] w fun e w' => e = .returned (.tuple #[(Value.agg #[Value.string (CI.nm (lkC L s)), Value.string (CI.su (lkC L s)), Value.slice (CI.iA (lkC L s)) (CI.n (lkC L s)) (CI.c (lkC L s)), Value.bool (CI.isI (lkC L s))]), .bool (fB L s)]) ∧ Below w.heap.size w w' := by
  have HL := Lib.hid h
  have HN := Lib.hid hn
  clear h hn
  go_enter Tryd.func21, Tryd.ntmps21
  go_upto_region 1 with fail
  have hb0 := World.alloc_heap_new w (.cells #[.string ⟨#[]⟩, .string ⟨#[]⟩, .slice none 0 0, .bool false] 30)
  have hB := below_al (Below.refl w.heap.size w) (.cells #[.string ⟨#[]⟩, .string ⟨#[]⟩, .slice none 0 0, .bool false] 30)
  generalize w.alloc (.cells #[.string ⟨#[]⟩, .string ⟨#[]⟩, .slice none 0 0, .bool false] 30) = W at hb0 hB ⊢
  obtain ⟨⟨x0, x1, x2, x3⟩, y0, y1, y2, y3⟩ := four_cells hb0
  have HB0 := Lib.hid hb0
  have HBL := Lib.hid hB
  have hlt := lt_heap hb0
  clear hb0 hB
  go_wp2
  go_loop [6] (fun i => ∃ k : Nat, k ≤ n ∧ i = .int .i64 k ∧ Hid (∀ j (hj : j < k) (hl : j < L.length), ¬ L[j].nm.toList = s.toList)) (fun i => n - (intOf i).toNat)
  case atStart => exact ⟨0, Nat.zero_le _, rfl, Lib.hid fun j hj => absurd hj (Nat.not_lt_zero _)⟩
  case round =>
    obtain ⟨k, hk, rfl, hv⟩ := hrel
    by_cases hlt : k < n
    · have hkl : k < L.length := by rw [HN.out]; exact hlt
      obtain ⟨g, o, rfl, hg, hok, c0, c1, c2, c3⟩ := (HL.out.below HBL.out).at hkl
      clear hok
      by_cases hq : L[k].nm.toList = s.toList
      · have HR := Lib.hid (lk_hit hkl (fun j hj => hv.out j hj (by omega)) hq)
        go_wp2
        refine bodyPost_ret (lk_ret rfl rfl (set_four HB0.out)) rfl ⟨?_, ?_⟩
        · rw [HR.out.1, HR.out.2]; rfl
        · exact below_st (below_st (below_st (below_st HBL.out (Nat.le_refl _) _) (Nat.le_refl _) _) (Nat.le_refl _) _) (Nat.le_refl _) _
      · have HV := Lib.hid (show ∀ j (hj : j < k + 1) (hl : j < L.length), ¬ L[j].nm.toList = s.toList from fun j hj hl => by
          rcases Nat.lt_or_ge j k with h | h
          · exact hv.out j h hl
          · obtain rfl : j = k := by omega
            exact hq)
        have hne : (L[k].nm.toList == s.toList) = false := by simpa using hq
        clear hq
        go_wp2
        go_round
        case rel => exact ⟨k + 1, by omega, by go_num, HV⟩
        case measure => simp [intOf]; omega
    · obtain rfl : k = n := by omega
      have HR := Lib.hid (lk_miss (L := L) (s := s) fun j hj => hv.out j (by rw [← HN.out]; exact hj) hj)
      go_wp2
      refine bodyPost_ret (lk_ret rfl rfl (set_four HB0.out)) rfl ⟨?_, ?_⟩
      · rw [HR.out.1, HR.out.2]; rfl
      · exact below_st (below_st (below_st (below_st HBL.out (Nat.le_refl _) _) (Nat.le_refl _) _) (Nat.le_refl _) _) (Nat.le_refl _) _
end Go.Proofs.YthifmcnemeiphaaDoor
