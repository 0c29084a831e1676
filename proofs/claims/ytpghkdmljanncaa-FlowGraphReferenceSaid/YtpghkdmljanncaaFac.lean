/- Layer 19: the law on back edges. -/
import Derived.Test.YtpghkdmljanncaaFz
import Derived.Laws.Rows
namespace Go.Proofs.Ytpghkdmljanncaa
open Go.ChangeShapes Go.WideShapes Go.ChangeAt Go.RowKit Go.PlainAid
set_option linter.unusedSimpArgs false
set_option linter.unusedVariables false

/-- the code without its handlers -/
def Cd.bare (c : Cd) : Cd := { c with hA := none, hn := 0, hc := 0, hs := [] }
theorem bare_few {c : Cd} (h : c.few) : c.bare.few := ⟨h.n, Nat.zero_le _, h.tn⟩
theorem bare_raw {c : Cd} {w : World} (h : c.raw w) : c.bare.raw w := ⟨h.il, h.iw, h.ib, rfl, Or.inl rfl, Nat.zero_le _, h.nz⟩
theorem bare_sc (c : Cd) (x : Int) : scL c.bare x = scL c x := rfl
theorem bare_hd (c : Cd) (x : Int) : hdL c.bare x = [] := by
  unfold hdL
  split
  · unfold rowsI; rfl
  · rfl
theorem bare_ed {c : Cd} {x t : Int} : t ∈ edL c.bare x ↔ t ∈ scL c x := by
  unfold edL
  rw [(ordL_spec _).2, bare_hd, List.map_nil, List.append_nil, bare_sc]
theorem beK_mem {c : Cd} {k : Nat} {p : Int × Int} (h : p ∈ beK c k) : ∃ j : Nat, p.1 = j ∧ p.2 ∈ scL c p.1 ∧ p.2 ≤ p.1 := by
  unfold beK at h
  obtain ⟨j, hj, hp⟩ := List.mem_flatMap.1 h
  obtain ⟨t, ht, rfl⟩ := List.mem_map.1 hp
  obtain ⟨h1, h2⟩ := List.mem_filter.1 ht
  exact ⟨j, rfl, h1, of_decide_eq_true h2⟩
theorem beK_none {c : Cd} {k : Nat} (h : beK c k = []) {j : Nat} (hj : j < k) {t : Int} (ht : t ∈ scL c j) : (j : Int) < t := by
  rcases Int.lt_or_le (j : Int) t with h1 | h1
  · exact h1
  · have : ((j : Int), t) ∈ beK c k := by
      unfold beK
      exact List.mem_flatMap.2 ⟨j, List.mem_range.2 hj, List.mem_map.2 ⟨t, List.mem_filter.2 ⟨ht, decide_eq_true h1⟩, rfl⟩⟩
    rw [h] at this
    cases this
theorem set_le {f : List Int} {t : Nat} {v : Int} (hf : ∀ i : Nat, f.getD i 0 ≤ i) (hv : v ≤ t) (i : Nat) : (f.set t v).getD i 0 ≤ i := by
  rw [List.getD_eq_getElem?_getD, List.getElem?_set]
  split
  · rename_i e
    subst e
    split
    · exact hv
    · exact Int.natCast_nonneg _
  · rw [← List.getD_eq_getElem?_getD]
    exact hf i
theorem dsIn_le (a : Int) (ha : 0 ≤ a) : ∀ (S f q : List Int), (∀ t ∈ S, a < t) → (∀ i : Nat, f.getD i 0 ≤ i) → (∀ i : Nat, (dsIn a f q S).1.getD i 0 ≤ i) ∧ ∀ x ∈ (dsIn a f q S).2, x ∈ q ∨ x ∈ S
  | [], f, q, _, hf => ⟨hf, fun x hx => Or.inl hx⟩
  | t :: r, f, q, hS, hf => by
    have hr := fun x hx => hS x (List.mem_cons_of_mem t hx)
    have ht := hS t List.mem_cons_self
    unfold dsIn
    split
    · have hv : f.getD a.toNat 0 + 1 ≤ (t.toNat : Int) := by have := hf a.toNat; omega
      have ih := dsIn_le a ha r (f.set t.toNat (f.getD a.toNat 0 + 1)) (q ++ [t]) hr (fun i => set_le hf hv i)
      refine ⟨ih.1, fun x hx => ?_⟩
      rcases ih.2 x hx with h | h
      · rcases List.mem_append.1 h with h | h
        · exact Or.inl h
        · rw [List.mem_singleton.1 h]; exact Or.inr List.mem_cons_self
      · exact Or.inr (List.mem_cons_of_mem _ h)
    · have ih := dsIn_le a ha r f q hr hf
      refine ⟨ih.1, fun x hx => ?_⟩
      rcases ih.2 x hx with h | h
      · exact Or.inl h
      · exact Or.inr (List.mem_cons_of_mem _ h)
theorem dsOut_le (c : Cd) (m : Nat) (hed : ∀ a : Int, 0 ≤ a → a < m → ∀ t ∈ edL c a, a < t ∧ t < m) : ∀ (k : Nat) (f q : List Int), (∀ x ∈ q, 0 ≤ x ∧ x < m) → (∀ i : Nat, f.getD i 0 ≤ i) → ∀ i : Nat, (dsOut c k f q).getD i 0 ≤ i
  | 0, f, q, _, hf => hf
  | k + 1, f, [], _, hf => hf
  | k + 1, f, a :: q, hq, hf => by
    have ha := hq a List.mem_cons_self
    have he := hed a ha.1 ha.2
    have h1 := dsIn_le a ha.1 (edL c a) f q (fun t ht => (he t ht).1) hf
    refine dsOut_le c m hed k _ _ (fun x hx => ?_) h1.1
    rcases h1.2 x hx with h | h
    · exact hq x (List.mem_cons_of_mem _ h)
    · have := he x h; omega
/-- no back edge and no handler: the distance of an instruction is at most its place -/
theorem bare_le {c : Cd} {w : World} (h : c.bare.ok w) (hbe : beK c c.n = []) (i : Nat) : (distL c.bare).getD i 0 ≤ i := by
  unfold distL
  split
  · simp
  · rename_i hn
    have hn' : 0 < c.n := Nat.pos_of_ne_zero hn
    refine dsOut_le c.bare c.n (fun a h0 h1 t ht => ?_) _ _ _ (fun x hx => ?_) (fun i => ?_) i
    · have hb := edL_bd h a t ht
      have ha : ((a.toNat : Nat) : Int) = a := Int.toNat_of_nonneg h0
      have := beK_none hbe (j := a.toNat) (by omega) (t := t) (by rw [ha]; exact bare_ed.1 ht)
      rw [ha] at this
      exact ⟨this, hb.2⟩
    · rw [List.mem_singleton.1 hx]; omega
    · refine set_le (fun j => ?_) (Int.le_refl _) i
      rw [List.getD_eq_getElem?_getD, List.getElem?_replicate]
      split
      · show (-1 : Int) ≤ j; omega
      · exact Int.natCast_nonneg _
theorem frozF {W : World} {B : Nat} {cs : Array Value} {t : TypeId} (h : W.heap[B]? = some (.cells cs t)) (j : Nat) : W.frozen? ⟨B, j, none⟩ = false := by simp [World.frozen?, h]
/-- pairs in memory -/
def PRow (w : World) (B : Nat) (A : Option Addr) (L : List (Int × Int)) : Prop :=
  L = [] ∨ ∃ g, A = some ⟨g, 0, none⟩ ∧ g < B ∧ ∀ (k : Nat) (p : Int × Int), L[k]? = some p → w.cell? ⟨g, k * 2, none⟩ = some (.int .i64 p.1) ∧ w.cell? ⟨g, k * 2 + 1, none⟩ = some (.int .i64 p.2)
theorem PRow.up {w w' : World} {A : Option Addr} {L : List (Int × Int)} (h : PRow w w.heap.size A L) (hb : Below w.heap.size w w') : PRow w' w'.heap.size A L := by
  rcases h with h | ⟨g, hA, hg, hc⟩
  · exact Or.inl h
  · refine Or.inr ⟨g, hA, Nat.lt_of_lt_of_le hg hb.size, fun k p hp => ?_⟩
    have e := fun j => hb.cell (p := ⟨g, j, none⟩) hg
    obtain ⟨c0, c1⟩ := hc k p hp
    exact ⟨(e _).trans c0, (e _).trans c1⟩
theorem prow_at : ∀ (L : List (Int × Int)) (k : Nat) (p : Int × Int), L[k]? = some p → (prow L)[k * 2]? = some (.int .i64 p.1) ∧ (prow L)[k * 2 + 1]? = some (.int .i64 p.2)
  | [], k, p, h => by simp at h
  | x :: L, 0, p, h => by
    obtain rfl : x = p := by simpa using h
    exact ⟨rfl, rfl⟩
  | x :: L, k + 1, p, h => by
    have ih := prow_at L k p (by simpa using h)
    rw [show (k + 1) * 2 = k * 2 + 1 + 1 by omega]
    exact ⟨ih.1, ih.2⟩
theorem prs_own {w : World} {base n c : Nat} {A : Option Addr} {L : List (Int × Int)} (h : w.ownsRow base 61 2 (.slice A n c) n (prow L)) (hn : L.length = n) : PRow w w.heap.size A L := by
  rcases Nat.eq_zero_or_pos n with h0 | h0
  · exact Or.inl (List.eq_nil_of_length_eq_zero (by omega))
  · obtain ⟨g, c4, hv, _, hg⟩ := h.form h0
    injection hv with hA _ hc
    subst hA
    refine Or.inr ⟨g, rfl, hg, fun k p hp => ?_⟩
    have hk := get_ltF hp
    obtain ⟨e0, e1⟩ := prow_at L k p hp
    exact ⟨by rw [h.cellAt (k * 2) (by omega), e0], by rw [h.cellAt (k * 2 + 1) (by omega), e1]⟩
theorem has_yes {w : World} {A : Option Addr} {n c : Nat} {L : List Int} {m : Int} (h1 : Row w w.heap.size A L) (hn : L.length = n) (hb : n ≤ 9223372036854775807) (hm : m ∈ L) :
    Calls Try.prog 45 #[.slice A n c, .int .i64 m] w fun e w' => e = .returned (.bool true) ∧ Below w.heap.size w w' :=
  (has_any m h1 hn hb).mono fun e w' ⟨he, q, hq⟩ => ⟨by rw [he]; unfold hasB; rw [List.any_eq_true.2 ⟨m, hm, by simp⟩], by rw [hq]; exact below_dr (Below.refl _ _) q⟩

end Go.Proofs.Ytpghkdmljanncaa
