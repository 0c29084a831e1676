/- Layer 53: rows in memory (the generic part is layer 11's); rows of tokens. -/
import Derived.Test.YtfpdnhbbbadegaaGreatDoorYq
import Derived.Deep.AppendLies
namespace Go.Proofs.YtfpdnhbbbadegaaGreatDoor
open Go.ChangeShapes Go.WideShapes Go.ChangeAt Go.RowKit Go.PlainAid
set_option linter.unusedSimpArgs false
set_option linter.unusedVariables false

theorem owns_below {w w' : World} {base e size n : Nat} {v : Value} {xs : List Value} (h : w.ownsRow base e size v n xs) (hb : Below w.heap.size w w') : w'.ownsRow base e size v n xs := by
  refine ⟨h.1, ?_⟩
  rcases h.2 with h2 | ⟨g, cap, cur, hv, hg, hh, rest⟩
  · exact Or.inl h2
  · exact Or.inr ⟨g, cap, cur, hv, hg, (hb.block g (lt_heap hh)).trans hh, rest⟩
def fl {α : Type} (F : α → List Value) (L : List α) : List Value := L.flatMap F
theorem fl_cons {α : Type} (F : α → List Value) (q : α) (ps : List α) : fl F (q :: ps) = F q ++ fl F ps := by unfold fl; rw [List.flatMap_cons]
theorem fl_len {α : Type} {F : α → List Value} {z : Nat} (hz : ∀ x, (F x).length = z) (ps : List α) : (fl F ps).length = ps.length * z := by
  induction ps with
  | nil => rw [show fl F [] = [] from rfl]; simp
  | cons p ps ih => rw [fl_cons, List.length_append, ih, List.length_cons, hz, Nat.add_mul, Nat.one_mul, Nat.add_comm]
theorem fl_app {α : Type} (F : α → List Value) (ps qs : List α) : fl F (ps ++ qs) = fl F ps ++ fl F qs := by unfold fl; simp
theorem fl_one {α : Type} (F : α → List Value) (p : α) : fl F [p] = F p := by simp [fl]
theorem fl_cell {α : Type} {F : α → List Value} (h : ∀ x, ∀ u ∈ F x, u.oneCell' = true) (ps : List α) : ∀ u ∈ fl F ps, u.oneCell' = true := by
  intro u hu
  unfold fl at hu
  obtain ⟨p, _, hp⟩ := List.mem_flatMap.1 hu
  exact h p u hp
theorem fl_at {α : Type} {F : α → List Value} {z : Nat} (hz : ∀ x, (F x).length = z) : ∀ (ps : List α) (k j : Nat) (p : α), j < z → ps[k]? = some p → (fl F ps)[k * z + j]? = (F p)[j]?
  | [], k, j, p, _, h => by simp at h
  | q :: ps, 0, j, p, hj, h => by
    simp at h; subst h
    rw [fl_cons, Nat.zero_mul, Nat.zero_add, List.getElem?_append_left (by rw [hz]; exact hj)]
  | q :: ps, k + 1, j, p, hj, h => by
    have ih := fl_at hz ps k j p hj (by simpa using h)
    have l4 : (F q).length = z := hz q
    have e : (k + 1) * z + j = z + (k * z + j) := by rw [Nat.add_mul, Nat.one_mul]; omega
    rw [fl_cons, e, List.getElem?_append_right (by omega), l4, Nat.add_sub_cancel_left]
    exact ih
/-- a row lies at A -/
def RowAt {α : Type} (F : α → List Value) (z : Nat) (w : World) (A : Option Addr) (L : List α) : Prop :=
  L = [] ∨ ∃ g o, A = some ⟨g, o, none⟩ ∧ g < w.heap.size ∧ ∀ (k : Nat) (x : α), L[k]? = some x → ∀ (j : Nat) (v : Value), (F x)[j]? = some v → w.cell? ⟨g, o + k * z + j, none⟩ = some v
theorem RowAt.nil {α : Type} (F : α → List Value) (z : Nat) (w : World) (A : Option Addr) : RowAt F z w A [] := Or.inl rfl
theorem RowAt.up {α : Type} {F : α → List Value} {z : Nat} {w w' : World} {A : Option Addr} {L : List α} (h : RowAt F z w A L) (hb : Below w.heap.size w w') : RowAt F z w' A L := by
  rcases h with h | ⟨g, o, hA, hg, hc⟩
  · exact Or.inl h
  · exact Or.inr ⟨g, o, hA, Nat.lt_of_lt_of_le hg hb.size, fun k x hk j v hv => (hb.cell (p := ⟨g, _, none⟩) hg).trans (hc k x hk j v hv)⟩
theorem RowAt.of_own {α : Type} {F : α → List Value} {z : Nat} (hz : ∀ x, (F x).length = z) (h0 : 0 < z) {w : World} {base e n c : Nat} {A : Option Addr} {L : List α} (h : w.ownsRow base e z (.slice A n c) n (fl F L)) : RowAt F z w A L ∧ L.length = n := by
  have hn : L.length = n := by have h1 := h.1; rw [fl_len hz] at h1; exact Nat.eq_of_mul_eq_mul_right h0 h1
  refine ⟨?_, hn⟩
  rcases Nat.eq_zero_or_pos n with h0 | h0
  · exact Or.inl (List.eq_nil_of_length_eq_zero (by omega))
  · obtain ⟨g, cap, hv, _, hlt⟩ := h.form h0
    have hA : A = some ⟨g, 0, none⟩ := by injection hv
    subst hA
    have hcap : c = cap := by injection hv
    subst hcap
    refine Or.inr ⟨g, 0, rfl, hlt, fun k x hk j v hv => ?_⟩
    have hkl : k < L.length := by
      rcases Nat.lt_or_ge k L.length with h | h
      · exact h
      · rw [List.getElem?_eq_none h] at hk; cases hk
    have hj : j < z := by
      rcases Nat.lt_or_ge j (F x).length with h | h
      · rwa [hz] at h
      · rw [List.getElem?_eq_none h] at hv; cases hv
    have hkz : k * z + z ≤ n * z := by
      have := Nat.mul_le_mul_right z (show k + 1 ≤ n by omega)
      rwa [Nat.add_mul, Nat.one_mul] at this
    rw [Nat.zero_add, h.cellAt _ (by omega), fl_at hz L k j x hj hk, hv]
theorem RowAt.get {α : Type} {F : α → List Value} {z : Nat} {w : World} {A : Option Addr} {L : List α} (h : RowAt F z w A L) {k : Nat} {x : α} (hk : L[k]? = some x) : ∃ g o, A = some ⟨g, o, none⟩ ∧ g < w.heap.size ∧ ∀ (j : Nat) (v : Value), (F x)[j]? = some v → w.cell? ⟨g, o + k * z + j, none⟩ = some v := by
  rcases h with h | ⟨g, o, hA, hg, hc⟩
  · rw [h] at hk; cases hk
  · exact ⟨g, o, hA, hg, hc k x hk⟩
/-- a row of a call's own -/
structure OwnR {α : Type} (F : α → List Value) (z : Nat) (e : TypeId) (w : World) (base : Nat) (A : Option Addr) (n c : Nat) (L : List α) : Prop where
  len : L.length = n
  le : n ≤ c
  nz : A = none → c = 0
  own : w.ownsRow base e z (.slice A n c) n (fl F L)
theorem own_formG {w : World} {base e size n : Nat} {v : Value} {xs : List Value} (h : w.ownsRow base e size v n xs) : ∃ A c, v = .slice A n c ∧ n ≤ c ∧ c ≤ maxLen ∧ (A = none → c = 0) := by
  rcases h.2 with ⟨rfl, h0⟩ | ⟨g, cap, cur, rfl, _, _, h1, h2, _⟩
  · exact ⟨none, 0, by rw [h0], by omega, Nat.zero_le _, fun _ => rfl⟩
  · exact ⟨_, cap, rfl, h1, h2, fun h => by cases h⟩
theorem OwnR.nil {α : Type} (F : α → List Value) (z : Nat) (e : TypeId) (w : World) (base : Nat) : OwnR F z e w base none 0 0 [] := ⟨rfl, Nat.le_refl _, fun _ => rfl, World.ownsRow_nil _ _ _ _⟩
theorem OwnR.below {α : Type} {F : α → List Value} {z : Nat} {e : TypeId} {w w' : World} {base : Nat} {A : Option Addr} {n c : Nat} {L : List α} (h : OwnR F z e w base A n c L) (hb : Below w.heap.size w w') : OwnR F z e w' base A n c L := ⟨h.len, h.le, h.nz, owns_below h.own hb⟩
theorem OwnR.more {α : Type} {F : α → List Value} {z : Nat} {e : TypeId} {w : World} {base base' : Nat} {A : Option Addr} {n c : Nat} {L : List α} (h : OwnR F z e w base A n c L) (hb : base' ≤ base) : OwnR F z e w base' A n c L :=
  ⟨h.len, h.le, h.nz, h.own.1, h.own.2.imp id fun ⟨g, cap, cur, h1, h2, h3⟩ => ⟨g, cap, cur, h1, Nat.le_trans hb h2, h3⟩⟩
theorem OwnR.row {α : Type} {F : α → List Value} {z : Nat} {e : TypeId} {w : World} {base : Nat} {A : Option Addr} {n c : Nat} {L : List α} (h : OwnR F z e w base A n c L) (hz : ∀ x, (F x).length = z) (h0 : 0 < z) : RowAt F z w A L := (RowAt.of_own hz h0 h.own).1

/-- blocks other than b are as they were -/
structure Off (b : Nat) (w w' : World) : Prop where
  os : w'.os = w.os
  tape : w'.tape = w.tape
  output : w'.output = w.output
  size : w.heap.size ≤ w'.heap.size
  block : ∀ k, k < w.heap.size → k ≠ b → w'.heap[k]? = w.heap[k]?
theorem Off.refl (b : Nat) (w : World) : Off b w w := ⟨rfl, rfl, rfl, Nat.le_refl _, fun _ _ _ => rfl⟩
theorem Off.trans {b : Nat} {w w1 w2 : World} (h : Off b w w1) (k : Off b w1 w2) : Off b w w2 :=
  ⟨k.os.trans h.os, k.tape.trans h.tape, k.output.trans h.output, Nat.le_trans h.size k.size, fun i hi hb => (k.block i (Nat.lt_of_lt_of_le hi h.size) hb).trans (h.block i hi hb)⟩
theorem Off.of {b : Nat} {w w1 : World} (h : Below w.heap.size w w1) : Off b w w1 := ⟨h.os, h.tape, h.output, h.size, fun k hk _ => h.block k hk⟩
theorem Off.al {b : Nat} {w w1 : World} (h : Off b w w1) (o : Obj) : Off b w (w1.alloc o) := h.trans (Off.of (below_al (Below.refl _ _) o))
theorem Off.st {b : Nat} {w w1 : World} (h : Off b w w1) {p : Addr} (hp : p.block = b ∨ w.heap.size ≤ p.block) (u : Value) : Off b w (w1.setCell p u) := by
  have hsz : (w1.setCell p u).heap.size = w1.heap.size := by simp [World.setCell]
  refine ⟨h.os, h.tape, h.output, by rw [hsz]; exact h.size, fun k hk hb => ?_⟩
  rw [Below.heap_setCell _ _ _ _ (by rcases hp with h | h <;> omega)]
  exact h.block k hk hb
theorem Off.put {b : Nat} {w w1 : World} (h : Off b w w1) (i : Nat) (u : Value) : Off b w (w1.setCell ⟨b, i, none⟩ u) := h.st (Or.inl rfl) u
theorem Off.below {b : Nat} {w w1 : World} (h : Off b w w1) {B : Nat} (hB : B ≤ w.heap.size) (hb : B ≤ b) : Below B w w1 := ⟨h.os, h.tape, h.output, h.size, fun k hk => h.block k (by omega) (by omega)⟩
/-- from a world in which b did not exist yet -/
theorem Off.on {b : Nat} {w W w1 : World} (h : Below w.heap.size w W) (hb : w.heap.size ≤ b) (k : Off b W w1) : Below w.heap.size w w1 := h.trans (k.below h.size hb)
theorem Off.step {b : Nat} {w W w1 : World} (h : Off b w W) (k : Below w.heap.size W w1) : Off b w w1 := ⟨k.os.trans h.os, k.tape.trans h.tape, k.output.trans h.output, Nat.le_trans h.size k.size, fun i hi hb => (k.block i hi).trans (h.block i hi hb)⟩
theorem Off.dr {b : Nat} {w W : World} (h : Off b w W) (q : Nat) : Off b w (W.drewN q) := ⟨h.os, h.tape, h.output, h.size, h.block⟩
theorem Off.keep {b k : Nat} {w w1 : World} {o : Obj} (h : Off b w w1) (hk : w.heap[k]? = some o) (hb : k ≠ b) : w1.heap[k]? = some o := (h.block k (lt_heap hk) hb).trans hk
theorem RowAt.off {α : Type} {F : α → List Value} {z : Nat} {w w' : World} {A : Option Addr} {L : List α} {b : Nat} (h : RowAt F z w A L) (hb : Off b w w') (hA : ∀ g o, A = some ⟨g, o, none⟩ → g ≠ b) : RowAt F z w' A L := by
  rcases h with h | ⟨g, o, hA', hg, hc⟩
  · exact Or.inl h
  · refine Or.inr ⟨g, o, hA', Nat.lt_of_lt_of_le hg hb.size, fun k x hk j v hv => ?_⟩
    have := hc k x hk j v hv
    rw [← this]
    have := hb.block g hg (hA g o hA')
    simp [World.cell?, this]
theorem own_off {w w' : World} {base e size n b : Nat} {v : Value} {xs : List Value} (h : w.ownsRow base e size v n xs) (hb : Off b w w') (hv : v.ownBlock ≠ some b) : w'.ownsRow base e size v n xs := by
  refine ⟨h.1, ?_⟩
  rcases h.2 with h2 | ⟨g, cap, cur, rfl, hg, hh, rest⟩
  · exact Or.inl h2
  · exact Or.inr ⟨g, cap, cur, rfl, hg, hb.keep hh (fun e => hv (by rw [e]; rfl)), rest⟩
theorem own_ne {w : World} {base e size n b : Nat} {v : Value} {xs : List Value} (h : w.ownsRow base e size v n xs) (hb : b < base) : v.ownBlock ≠ some b := by
  intro hv
  have := (h.lt b hv).1
  omega
theorem OwnR.off {α : Type} {F : α → List Value} {z : Nat} {e : TypeId} {w w' : World} {base : Nat} {A : Option Addr} {n c b : Nat} {L : List α} (h : OwnR F z e w base A n c L) (hb : Off b w w') (hb' : b < base) : OwnR F z e w' base A n c L := ⟨h.len, h.le, h.nz, own_off h.own hb (own_ne h.own hb')⟩

theorem OwnR.off2 {α : Type} {F : α → List Value} {z : Nat} {e : TypeId} {w w' : World} {base : Nat} {A : Option Addr} {n c b : Nat} {L : List α} (h : OwnR F z e w base A n c L) (hb : Off b w w') (hb' : (Value.slice A n c).ownBlock ≠ some b) : OwnR F z e w' base A n c L := ⟨h.len, h.le, h.nz, own_off h.own hb hb'⟩

def tF (t : Tk) : List Value := [.int .i64 t.k, .string (bsB t.s), .int .i64 t.n, .int .i64 t.a]
theorem tF_len (t : Tk) : (tF t).length = 4 := rfl
theorem tF_one (t : Tk) : ∀ u ∈ tF t, u.oneCell' = true := by
  intro u hu
  simp [tF] at hu
  rcases hu with rfl | rfl | rfl | rfl <;> rfl
theorem info_tF : (Tryz.prog.info? 27).map (fun i => (i.zero, i.size, i.bytes)) = some (some (.agg #[.int .i64 0, .string ⟨#[]⟩, .int .i64 0, .int .i64 0]), 4, 40) := by kernel_rfl
theorem append_tF {w : World} {ops : Array Oper} {rest : List Oper} {o : Oper} {a : Act} {Q : Exit → Act → World → Prop} (hg : o.guard = none) (s x : Operand)
    (hop : o.op = Op.call { callee := Callee.builtin Builtin.append, args := #[s, x], argTypes := #[22, 22] })
    {base n c B : Nat} {A : Option Addr} {L : List Tk} {i : Tk} (hs : a.eval s = .slice A n c) (hO : OwnR tF 4 27 w base A n c L) (hx : a.eval x = .slice (some ⟨B, 0, none⟩) 1 1)
    (hi : ∀ j u, (tF i)[j]? = some u → w.cell? ⟨B, j, none⟩ = some u) (hb : n ≤ 100000) (hbase : base ≤ w.heap.size)
    (h : ∀ A' c' w', OwnR tF 4 27 w' base A' (n + 1) c' (L ++ [i]) → Below base w w' → w.grownBy w' (Value.slice A n c).ownBlock → wpList Tryz.prog ops Q rest (a.put o.dst (.slice A' (n + 1) c')) w') : wpList Tryz.prog ops Q (o :: rest) a w := by
  obtain ⟨i0, hi0, hz0, hz1, hz2⟩ := info_parts info_tF
  refine _root_.Go.wpList_append_own (w := w) hg s x 22 hop base 27 i0 _ 4 40 Tryz.underlying22 hi0 hz0 hz1 hz2 rfl (by decide) (.slice A n c) n (fl tF L) hs hO.own ⟨B, 0, none⟩ 1 1 (tF i) hx rfl (fun j u hu => by
    rcases Nat.eq_zero_or_pos j with rfl | hj
    · simpa [Addr.add] using hi 0 u hu
    · have : j ≠ 0 := by omega
      simpa [Addr.add, this] using hi j u hu) (by rw [← fl_one tF]; exact fl_cell tF_one _) (by unfold maxLen; omega) (by omega) hbase ?_
  intro v' w' h1 h2 _
  rw [← fl_one tF, ← fl_app] at h1
  obtain ⟨A', c', rfl, hle, _, hnz⟩ := own_formG h1
  refine h A' c' w' ⟨by rw [List.length_append, hO.len]; rfl, hle, hnz, h1⟩ (grown_below h2 (fun k hk => (hO.own.lt k hk).1) hbase) h2

theorem sc_nil : scL [] = none := rfl
theorem fm_empty {k n : Int} {s : List UInt8} (h : txL k s n = []) : fmV k s n = .tuple #[.string ⟨#[]⟩, .int .i64 1] := by
  unfold fmV fmB; rw [h, sc_nil]; rfl
set_option maxRecDepth 100000 in
set_option maxHeartbeats 2000000 in
theorem fmt_1e (n a : Int) (w : World) (hL : Laid w) : Calls Tryz.prog 9 #[.agg #[.int .i64 1, .string ⟨#[]⟩, .int .i64 n, .int .i64 a]] w fun e w' => e = .returned (.tuple #[.string ⟨#[]⟩, .int .i64 1]) ∧ Below w.heap.size w w' := by
  have hB0 := below_al (Below.refl w.heap.size w) (.cells #[.int .i64 1, .string ⟨#[]⟩, .int .i64 n, .int .i64 a] 27)
  have HZ := Lib.hid (World.alloc_heap_new w (.cells #[.int .i64 1, .string ⟨#[]⟩, .int .i64 n, .int .i64 a] 27))
  have HB := Lib.hid hB0
  have HLD := Lib.hid (hL.up hB0)
  have KC := Lib.hid (fun W (hW : Laid W) => (by have h := rep_any ⟨#[]⟩ (by decide) W hW; exact h : Calls Tryz.prog 21 #[.string ⟨#[]⟩, .string ⟨#[47]⟩, .string ⟨#[58, 58]⟩] W fun e w' => e = .returned (.string ⟨#[]⟩) ∧ Below W.heap.size W w'))
  clear hL hB0
  go_enter Tryz.func9, Tryz.ntmps9
  go_upto_region 1 with fail
  generalize w.alloc (.cells #[.int .i64 1, .string ⟨#[]⟩, .int .i64 n, .int .i64 a] 27) = W0 at HZ HB HLD ⊢
  obtain ⟨⟨z0, z1, z2, z3⟩, fz, yz⟩ := four_cellsT HZ.out
  go_wp2_with (first | (go_at_call 21; refine (KC.out _ HLD.out).mono ?_; rintro e w1 ⟨rfl, hb⟩; have HB := Lib.hid (below_on HB.out hb); clear hb))
  go_ret2
  exact ⟨rfl, HB.out⟩
theorem format_any (k n a : Int) (s : ByteArray) (hs : s.size ≤ 1048576) (hn0 : -9223372036854775808 ≤ n) (hn1 : n ≤ 9223372036854775807) (w : World) (hL : Laid w) :
    Calls Tryz.prog 9 #[.agg #[.int .i64 k, .string s, .int .i64 n, .int .i64 a]] w fun e w' => e = .returned (fmV k s.data.toList n) ∧ Below w.heap.size w w' := by
  by_cases h3 : k = 3
  · subst h3; exact fmt_3 n a s hs hn0 hn1 w hL
  by_cases h4 : k = 4
  · subst h4; exact fmt_4 n a s hs hn0 hn1 w hL
  by_cases h5 : k = 5
  · subst h5; exact fmt_5 n a s hs w hL
  by_cases h0 : 0 < s.size
  · by_cases h1 : k = 1
    · subst h1; exact fmt_1 n a s hs h0 w hL
    · exact fmt_own k n a s hs h0 h1 h3 h4 h5 w hL
  · have he : s = ⟨#[]⟩ := by
      have hz : s.size = 0 := by omega
      exact ba_ext (by have := empty_data hz; rw [Lib.toList_data] at this; rw [this])
    subst he
    by_cases h1 : k = 1
    · subst h1
      rw [fm_empty (show txL 1 [] n = [] from rfl)]
      exact fmt_1e n a w hL
    · rw [fm_empty (show txL k [] n = [] by unfold txL; rw [if_neg h1, if_neg h3, if_neg h4, if_neg h5])]
      exact format_empty k n a w h1 h3 h4 h5

end Go.Proofs.YtfpdnhbbbadegaaGreatDoor
