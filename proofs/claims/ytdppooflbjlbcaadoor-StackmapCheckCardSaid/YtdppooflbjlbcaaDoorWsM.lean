import Derived.Test.YtdppooflbjlbcaaDoorWrM
import Derived.Test.YtdppooflbjlbcaaDoorWiM

/- Ws -/
/- Layer 22: rows of methods of a call's own; Clone; Attach. (Written by gen/ws.py.) -/
namespace Go.Proofs.YtdppooflbjlbcaaDoor.I
open Go.ChangeShapes Go.WideShapes Go.ChangeAt Go.RowKit Go.PlainAid
set_option linter.unusedSimpArgs false
set_option linter.unusedVariables false

def mcs (m : Me) : List Value := [.int .i64 m.fl, .string m.nm, .string m.ds, .bool m.hc, .int .i64 m.c.st, .int .i64 m.c.lo, .slice m.c.iA m.c.n m.c.ic, .slice m.c.hA m.c.hn m.c.hc, .slice m.c.mA m.c.mn m.c.mc, .slice m.c.lA m.c.ln m.c.lc, .slice m.eA m.en m.ec]
def mesrow (L : List Me) : List Value := L.flatMap mcs
theorem mesrow_cons (q : Me) (ps : List Me) : mesrow (q :: ps) = mcs q ++ mesrow ps := by unfold mesrow; rw [List.flatMap_cons]
theorem mesrow_len (ps : List Me) : (mesrow ps).length = ps.length * 11 := by
  induction ps with
  | nil => rfl
  | cons p ps ih => rw [mesrow_cons, List.length_append, ih, List.length_cons]; simp [mcs]; omega
theorem mesrow_app (ps qs : List Me) : mesrow (ps ++ qs) = mesrow ps ++ mesrow qs := by unfold mesrow; simp
theorem mesrow_one (p : Me) : mesrow [p] = mcs p := by simp [mesrow]
theorem mesrow_cell (ps : List Me) : ∀ u ∈ mesrow ps, u.oneCell' = true := by
  intro u hu
  unfold mesrow at hu
  obtain ⟨p, _, h⟩ := List.mem_flatMap.1 hu
  simp [mcs] at h
  rcases h with rfl | rfl | rfl | rfl | rfl | rfl | rfl | rfl | rfl | rfl | rfl <;> rfl
theorem mesrow_at : ∀ (ps : List Me) (k j : Nat) (p : Me), j < 11 → ps[k]? = some p → (mesrow ps)[k * 11 + j]? = (mcs p)[j]?
  | [], k, j, p, _, h => by simp at h
  | q :: ps, 0, j, p, hj, h => by
    simp at h; subst h
    rw [mesrow_cons, Nat.zero_mul, Nat.zero_add, List.getElem?_append_left (by simpa [mcs] using hj)]
  | q :: ps, k + 1, j, p, hj, h => by
    have ih := mesrow_at ps k j p hj (by simpa using h)
    have l11 : (mcs q).length = 11 := rfl
    rw [mesrow_cons, List.getElem?_append_right (by omega), l11, show (k + 1) * 11 + j - 11 = k * 11 + j by omega]
    exact ih
theorem mes_cell {w : World} {g o : Nat} {L : List Me} (h : ∀ (k : Nat) (m : Me), L[k]? = some m → m.ok w ∧ MeAt w g o k m) : ∀ j u, (mesrow L)[j]? = some u → w.cell? ⟨g, o + j, none⟩ = some u := by
  intro j u hu
  have hj : j < L.length * 11 := by
    rw [← mesrow_len]
    rcases Nat.lt_or_ge j (mesrow L).length with h | h
    · exact h
    · rw [List.getElem?_eq_none h] at hu; cases hu
  have hk : j / 11 < L.length := by omega
  have h1 := mesrow_at L (j / 11) (j % 11) _ (Nat.mod_lt _ (by decide)) (List.getElem?_eq_getElem hk)
  rw [show j / 11 * 11 + j % 11 = j by omega, hu] at h1
  obtain ⟨c0, c1, c2, c3, c4, c5, c6, c7, c8, c9, c10⟩ := (h (j / 11) _ (List.getElem?_eq_getElem hk)).2
  have hr : ∀ r, j % 11 = r → o + j = o + j / 11 * 11 + r := by intro r hr; omega
  have hlt := Nat.mod_lt j (show 0 < 11 by decide)
  rcases (by omega : j % 11 = 0 ∨ j % 11 = 1 ∨ j % 11 = 2 ∨ j % 11 = 3 ∨ j % 11 = 4 ∨ j % 11 = 5 ∨ j % 11 = 6 ∨ j % 11 = 7 ∨ j % 11 = 8 ∨ j % 11 = 9 ∨ j % 11 = 10) with e | e | e | e | e | e | e | e | e | e | e <;> rw [hr _ e] <;> rw [e] at h1 <;> cases h1 <;> assumption
/-- a row of a call's own, in which the maps of one method have been replaced -/
theorem mes_set {w : World} {base e n cp g i : Nat} {L : List Me} {m m' : Me} {v : Value} (h : w.ownsRow base e 11 (.slice (some ⟨g, 0, none⟩) n cp) n ((mesrow L).set (i * 11 + 8) v)) (hl : L.length = n) (hm : L[i]? = some m)
    (hv : mcs m' = (mcs m).set 8 v) (hok : ∀ x ∈ L, x.ok w) (hok' : m'.ok w) (h0 : 0 < n) : Mes w (some ⟨g, 0, none⟩) (L.set i m') := by
  have hg : g < w.heap.size := (h.lt g rfl).2
  have hi : i < L.length := get_ltF hm
  refine Or.inr ⟨g, 0, rfl, hg, fun k x hx => ?_⟩
  have hk : k < L.length := by have := get_ltF hx; rwa [List.length_set] at this
  have cell : ∀ j u, j < 11 → (mcs x)[j]? = some u → w.cell? ⟨g, 0 + k * 11 + j, none⟩ = some u := by
    intro j u hj hu
    rw [Nat.zero_add, h.cellAt _ (by omega), List.getElem?_set]
    by_cases hik : i = k
    · subst hik
      rw [List.getElem?_set_self hi] at hx
      obtain rfl := Option.some.inj hx
      rw [hv, List.getElem?_set] at hu
      by_cases h8 : 8 = j
      · subst h8
        rw [if_pos rfl, if_pos (show 8 < (mcs m).length from (by decide : 8 < 11))] at hu
        rw [if_pos rfl, if_pos (by rw [mesrow_len]; omega)]
        exact hu
      · rw [if_neg h8] at hu
        rw [if_neg (by omega), mesrow_at L i j m hj hm]
        exact hu
    · rw [List.getElem?_set_ne hik] at hx
      rw [if_neg (by omega), mesrow_at L k j x hj hx]
      exact hu
  refine ⟨?_, ?_⟩
  · rcases List.mem_or_eq_of_mem_set (List.mem_of_getElem? hx) with h1 | h1
    · exact hok _ h1
    · rw [h1]; exact hok'
  · have c := fun j u hj hu => cell j u hj hu
    exact ⟨c 0 _ (by decide) rfl, c 1 _ (by decide) rfl, c 2 _ (by decide) rfl, c 3 _ (by decide) rfl, c 4 _ (by decide) rfl, c 5 _ (by decide) rfl, c 6 _ (by decide) rfl, c 7 _ (by decide) rfl, c 8 _ (by decide) rfl, c 9 _ (by decide) rfl, c 10 _ (by decide) rfl⟩
theorem wpList_append_mes {w : World} {ops : Array Oper} {rest : List Oper} {o : Oper} {a : Act} {Q : Exit → Act → World → Prop} (hg : o.guard = none) (s x : Operand)
    (hop : o.op = Op.call { callee := Callee.builtin Builtin.append, args := #[s, x], argTypes := #[67, 67] })
    (base n c : Nat) (L : List Me) (v : Value) {gx ox : Nat} (hs : a.eval s = v) (hown : w.ownsRow base 77 11 v 0 []) (hx : a.eval x = .slice (some ⟨gx, ox, none⟩) n c)
    (hi : ∀ j u, (mesrow L)[j]? = some u → w.cell? ⟨gx, ox + j, none⟩ = some u) (hn : L.length = n) (hb : n ≤ 764877654105) (hbase : base ≤ w.heap.size)
    (h : ∀ v' w', w'.ownsRow base 77 11 v' n (mesrow L) → w.grownBy w' v.ownBlock → wpList Tryd.prog ops Q rest (a.put o.dst v') w') : wpList Tryd.prog ops Q (o :: rest) a w := by
  obtain ⟨i0, hi0, hz0, hz1, hz2⟩ := info_parts infoMe
  refine _root_.Go.wpList_append_own (w := w) hg s x 67 hop base 77 i0 _ 11 184 Tryd.underlying67 hi0 hz0 hz1 hz2 rfl (by decide) v 0 [] hs hown ⟨gx, ox, none⟩ n c (mesrow L) hx (by rw [mesrow_len, hn]) (fun j u hu => ?_) (mesrow_cell _) (by unfold maxLen; omega) (by omega) hbase ?_
  · rw [Addr.add_lit]; exact hi j u hu
  · intro v' w' h1 h2 _
    rw [Nat.zero_add] at h1
    exact h v' w' (by simpa using h1) h2
set_option maxRecDepth 100000 in
set_option maxHeartbeats 8000000 in
theorem clone_me2 {gx ox n cap : Nat} {L : List Me} (w : World) (hn : L.length = n) (hb : n ≤ 764877654105) (hg : gx < w.heap.size) (hp : ∀ (k : Nat) (m : Me), L[k]? = some m → m.ok w ∧ MeAt w gx ox k m) :
    Calls Tryd.prog 53 #[.slice (some ⟨gx, ox, none⟩) n cap] w fun e w' => ∃ v, e = .returned v ∧ w'.ownsRow w.heap.size 77 11 v n (mesrow L) ∧ Below w.heap.size w w' := by
  have hc := mes_cell hp
  have HN := Lib.hid hn
  clear hn hp
  have e1 := fun w => slnilMe ⟨gx, ox, none⟩ n cap w
  have hown0 := own_lit0Me (w := w) (B := w.heap.size) (Nat.le_refl _)
  have hbz := below_al (Below.refl _ w) (.cells #[] 77)
  have hcs : ∀ j u, (mesrow L)[j]? = some u → (w.alloc (.cells #[] 77)).cell? ⟨gx, ox + j, none⟩ = some u := fun j u hu => (hbz.cell (p := ⟨gx, ox + j, none⟩) hg).trans (hc j u hu)
  have HCS := Lib.hid hcs
  clear hcs hc
  go_enter Tryd.func53, Tryd.ntmps53
  go_wp2_with (at_builtin; refine wpList_append_mes (by rfl) _ _ (by rfl) w.heap.size n cap L _ (by rfl) hown0 (by rfl) HCS.out HN.out hb (by simp) ?_; intro v1 wE ho1 hg1; have hbE := grown_own hbz hown0 hg1)
  go_ret
  exact ⟨v1, rfl, ho1, hbE⟩
/-- a row of maps appended to an empty one, wherever it lies -/
theorem sms_cell {w : World} {A : Option Addr} {L : List SM} {ad : Addr} (hA : A = some ad) (h : SMs w A L) : ∀ j u, (smrow L)[j]? = some u → w.cell? (ad.add j) = some u := by
  intro j u hu
  have hj : j < L.length * 4 := by
    rw [← smrow_len]
    rcases Nat.lt_or_ge j (smrow L).length with h | h
    · exact h
    · rw [List.getElem?_eq_none h] at hu; cases hu
  have hk : j / 4 < L.length := by omega
  have h1 := smrow_at L (j / 4) (j % 4) _ (Nat.mod_lt _ (by decide)) (List.getElem?_eq_getElem hk)
  rw [show j / 4 * 4 + j % 4 = j by omega, hu] at h1
  rcases h with h0 | ⟨g, o, hA2, hg, hc⟩
  · rw [h0] at hk; exact absurd hk (Nat.not_lt_zero _)
  · rw [hA] at hA2
    obtain rfl := Option.some.inj hA2
    rw [Addr.add_lit]
    obtain ⟨_, c0, c1, c2, c3⟩ := hc (j / 4) _ (List.getElem?_eq_getElem hk)
    have hr : ∀ r, j % 4 = r → o + j = o + j / 4 * 4 + r := by intro r hr; omega
    have hlt := Nat.mod_lt j (show 0 < 4 by decide)
    rcases (by omega : j % 4 = 0 ∨ j % 4 = 1 ∨ j % 4 = 2 ∨ j % 4 = 3) with e | e | e | e <;> rw [hr _ e] <;> rw [e] at h1 <;> cases h1 <;> assumption
theorem wpList_append_sms {w : World} {ops : Array Oper} {rest : List Oper} {o : Oper} {a : Act} {Q : Exit → Act → World → Prop} (hg : o.guard = none) (s x : Operand)
    (hop : o.op = Op.call { callee := Callee.builtin Builtin.append, args := #[s, x], argTypes := #[24, 24] })
    (base m c : Nat) (L : List SM) (v : Value) {ad : Addr} (hs : a.eval s = v) (hown : w.ownsRow base 51 4 v 0 (smrow [])) (hx : a.eval x = .slice (some ad) m c)
    (hi : ∀ j u, (smrow L)[j]? = some u → w.cell? (ad.add j) = some u) (hm : L.length = m) (hb : m ≤ 2199023255552) (hbase : base ≤ w.heap.size)
    (h : ∀ v' w', w'.ownsRow base 51 4 v' m (smrow L) → w.grownBy w' v.ownBlock → wpList Tryd.prog ops Q rest (a.put o.dst v') w') : wpList Tryd.prog ops Q (o :: rest) a w := by
  obtain ⟨i0, hi0, hz0, hz1, hz2⟩ := info_parts infoSM
  refine _root_.Go.wpList_append_own (w := w) hg s x 24 hop base 51 i0 _ 4 64 Tryd.underlying24 hi0 hz0 hz1 hz2 rfl (by decide) v 0 (smrow []) hs hown ad m c (smrow L) hx (by rw [smrow_len, hm]) hi (smrow_cell _) (by unfold maxLen; omega) (by omega) hbase ?_
  intro v' w' h1 h2 _
  rw [Nat.zero_add] at h1
  exact h v' w' (by simpa [smrow] using h1) h2
theorem own_none {w : World} {base e size n c : Nat} {A : Option Addr} {xs : List Value} (h : w.ownsRow base e size (.slice A n c) n xs) (hA : A = none) : n = 0 := by
  subst hA
  rcases h.2 with ⟨h1, _⟩ | ⟨g, cap, cur, h1, _⟩
  · injection h1
  · cases h1
/-- a row of maps handed back -/
def OwnOr (w : World) (base : Nat) (A : Option Addr) (n c : Nat) (L : List SM) : Prop := (A = none ∧ n = 0 ∧ c = 0 ∧ L = []) ∨ w.ownsRow base 51 4 (.slice A n c) n (smrow L)
theorem OwnOr.sms {w : World} {base n c : Nat} {A : Option Addr} {L : List SM} (h : OwnOr w base A n c L) (hok : ∀ m ∈ L, m.f.ok w) : SMs w A L := by
  rcases h with ⟨_, _, _, h⟩ | h
  · exact Or.inl h
  · exact (SMs.of_own h hok).1
theorem OwnOr.set {w : World} {base n c : Nat} {A : Option Addr} {L : List SM} (h : OwnOr w base A n c L) {a : Addr} (ha : a.block < base) (u : Value) : OwnOr (w.setCell a u) base A n c L := h.imp id fun h => ownsRow_setCell_below h ha u
theorem OwnOr.nil {w : World} {base n c : Nat} {A : Option Addr} {L : List SM} (h : OwnOr w base A n c L) (hA : A = none) : n = 0 ∧ c = 0 := by
  rcases h with ⟨_, h1, h2, _⟩ | h
  · exact ⟨h1, h2⟩
  · refine ⟨own_none h hA, ?_⟩
    obtain ⟨A1, c1, e, _, _, hz⟩ := own_form h
    injection e with e1 e2 e3
    rw [e3]; exact hz (e1 ▸ hA)
def SmNew (n : Nat) (L : List SM) (w : World) (e : Ending) (w' : World) : Prop := ∃ A c, e = .returned (.slice A n c) ∧ OwnOr w' w.heap.size A n c L ∧ Below w.heap.size w w'
set_option maxRecDepth 100000 in
set_option maxHeartbeats 8000000 in
theorem clone_sm2 {A : Option Addr} {n cap : Nat} {L : List SM} (w : World) (hn : L.length = n) (hN : n ≤ 2199023255552) (hz : A = none → n = 0 ∧ cap = 0) (hp : SMs w A L) :
    Calls Tryd.prog 54 #[.slice A n cap] w (SmNew n L w) := by
  cases A with
  | none =>
    obtain ⟨rfl, rfl⟩ := hz rfl
    obtain rfl : L = [] := List.eq_nil_of_length_eq_zero hn
    have e1 : ∀ w, (binOp .eql 24 (.slice none 0 0) (.slice none 0 0)).run Tryd.prog w = .ok (.bool true) w := fun w => by first | kernel_rfl | simp [go_sem, Tryd.underlying24]
    go_enter Tryd.func54, Tryd.ntmps54
    go_wp2
    go_ret
    exact ⟨none, 0, rfl, Or.inl ⟨rfl, rfl, rfl, rfl⟩, Below.refl _ _⟩
  | some ad =>
    have hbz := below_al (Below.refl _ w) (.cells #[] 51)
    have HC := Lib.hid (sms_cell rfl (hp.up hbz))
    have HN := Lib.hid hn
    clear hp hn
    have e1 := fun w => slnilM ad n cap w
    have hown0 := own_lit0M (w := w) (B := w.heap.size) (Nat.le_refl _)
    go_enter Tryd.func54, Tryd.ntmps54
    go_wp2_with (at_builtin; refine wpList_append_sms (by rfl) _ _ (by rfl) w.heap.size n cap L _ (by rfl) hown0 (by rfl) HC.out HN.out hN (by simp) ?_; intro v1 wE ho1 hg1; have hbE := grown_own hbz hown0 hg1)
    go_ret
    obtain ⟨A1, c1, rfl, _, _, hz1⟩ := own_form ho1
    exact ⟨A1, c1, rfl, Or.inr ho1, hbE⟩

end Go.Proofs.YtdppooflbjlbcaaDoor.I

/- Wt -/
/- Layer 22: Attach. (Written by gen/wt.py.) -/
namespace Go.Proofs.YtdppooflbjlbcaaDoor.I
open Go.ChangeShapes Go.WideShapes Go.ChangeAt Go.RowKit Go.PlainAid
set_option linter.unusedSimpArgs false
set_option linter.unusedVariables false

/-- the method with other maps -/
def Me.put (m : Me) (A : Option Addr) (n c : Nat) (ms : List SM) : Me := { m with c := { m.c with mA := A, mn := n, mc := c }, ms := ms }
theorem put_ok {w : World} {m : Me} {A : Option Addr} {n c : Nat} {ms : List SM} (h : m.ok w) (hl : ms.length = n) (hn : n ≤ 9223372036854775807) (hs : SMs w A ms) : (m.put A n c ms).ok w :=
  ⟨⟨⟨h.mem.raw.il, h.mem.raw.iw, h.mem.raw.ib, h.mem.raw.hl, h.mem.raw.hw, h.mem.raw.hb, h.mem.raw.nz⟩, hl, hs, hn, h.mem.ll, h.mem.lw, h.mem.lb⟩, h.el, h.ew, h.eb⟩
def AtRight (u : CM) (i : Nat) (m : Me) (n : Nat) (ms : List SM) (w : World) (e : Ending) (w' : World) : Prop :=
  ∃ g cp A c, e = .returned (.tuple #[.agg #[.int .i64 u.fl, .string u.nm, .string u.su, .slice u.iA u.inn u.ic, .slice u.fA u.fn u.fc, .slice (some ⟨g, 0, none⟩) u.mn cp, .string u.so], .int .i64 0]) ∧ Mes w' (some ⟨g, 0, none⟩) (u.mm.set i (m.put A n c ms)) ∧ (A = none → n = 0 ∧ c = 0) ∧ Below w.heap.size w w'
def AtNo (k : Int) (w : World) (e : Ending) (w' : World) : Prop := e = .returned (.tuple #[.agg #[.int .i64 0, .string ⟨#[]⟩, .string ⟨#[]⟩, .slice none 0 0, .slice none 0 0, .slice none 0 0, .string ⟨#[]⟩], .int .i64 k]) ∧ Below w.heap.size w w'
structure AtQ (w : World) (g n cp i nn c b1 b2 : Nat) (L : List Me) (A : Option Addr) (ms : List SM) (W : World) : Prop where
  own : W.ownsRow b1 77 11 (.slice (some ⟨g, 0, none⟩) n cp) n ((mesrow L).set (i * 11 + 8) (.slice A nn c))
  sm : OwnOr W b2 A nn c ms
  bel : Below w.heap.size w W
theorem AtQ.stp {w W : World} {g n cp i nn c b1 b2 B : Nat} {L : List Me} {A : Option Addr} {ms : List SM} (h : AtQ w g n cp i nn c b1 b2 L A ms W) (h1 : B < b1) (h2 : B < b2) (hw : w.heap.size ≤ B) (o : Nat) (v : Value) : AtQ w g n cp i nn c b1 b2 L A ms (W.setCell ⟨B, o, none⟩ v) :=
  ⟨ownsRow_setCell_below h.own (a := ⟨B, o, none⟩) h1 v, h.sm.set (a := ⟨B, o, none⟩) h2 v, below_st (p := ⟨B, o, none⟩) h.bel hw v⟩
theorem AtQ.fin {w W : World} {g n cp i nn c b1 b2 : Nat} {L : List Me} {A : Option Addr} {ms : List SM} {m : Me} (h : AtQ w g n cp i nn c b1 b2 L A ms W) (hl : L.length = n) (hm : L[i]? = some m) (hn : ms.length = nn) (hb : nn ≤ 9223372036854775807) (hL : ∀ x ∈ L, x.ok w) (hf : ∀ x ∈ ms, x.f.ok w) :
    Mes W (some ⟨g, 0, none⟩) (L.set i (m.put A nn c ms)) ∧ (A = none → nn = 0 ∧ c = 0) ∧ Below w.heap.size w W := by
  have hi := get_ltF hm
  refine ⟨mes_set h.own hl hm rfl (fun x hx => (hL x hx).up h.bel) (put_ok ((hL m (List.mem_of_getElem? hm)).up h.bel) hn hb (h.sm.sms fun x hx => (hf x hx).up h.bel)) (by omega), h.sm.nil, h.bel⟩

end Go.Proofs.YtdppooflbjlbcaaDoor.I

/- Wta -/
/- Layer 22: Attach, part a. (gen/wt.py) -/
namespace Go.Proofs.YtdppooflbjlbcaaDoor.I
open Go.ChangeShapes Go.WideShapes Go.ChangeAt Go.RowKit Go.PlainAid
set_option linter.unusedSimpArgs false
set_option linter.unusedVariables false

set_option maxRecDepth 100000 in
set_option maxHeartbeats 8000000 in
theorem at_out (u : CM) (x : Int) (l : Value) (w : World) (h : x < 0 ∨ (0 ≤ x ∧ (u.mn : Int) ≤ x)) : Calls Tryd.prog 33 #[.agg #[.int .i64 u.fl, .string u.nm, .string u.su, .slice u.iA u.inn u.ic, .slice u.fA u.fn u.fc, .slice u.mA u.mn u.mc, .string u.so], .int .i64 x, l] w (AtNo 1 w) := by
  obtain ⟨Q, hQ⟩ : ∃ Q, AtNo 1 w = Q := ⟨_, rfl⟩
  have HQ := Lib.hid hQ
  rw [hQ]
  clear hQ
  obtain ⟨fl, nm, su, iA, inn, ic, is, fA, fn, fc, fs, mA, mn, mc, mm, so⟩ := u
  simp only at h ⊢
  rcases h with h | ⟨h0, h⟩
  · go_enter Tryd.func33, Tryd.ntmps33
    go_wp2
    obtain ⟨H0, H1, hB⟩ := two_laidS w (.cells #[.int .i64 fl, .string nm, .string su, .slice iA inn ic, .slice fA fn fc, .slice mA mn mc, .string so] 69) (.cells #[.int .i64 0, .string ⟨#[]⟩, .string ⟨#[]⟩, .slice none 0 0, .slice none 0 0, .slice none 0 0, .string ⟨#[]⟩] 69)
    refine bodyPost_ret (cm_ret rfl rfl H1) rfl ?_
    rw [← HQ.out]
    exact ⟨rfl, hB⟩
  · have h0' : ¬ x < 0 := by omega
    go_enter Tryd.func33, Tryd.ntmps33
    go_wp2
    obtain ⟨H0, H1, hB⟩ := two_laidS w (.cells #[.int .i64 fl, .string nm, .string su, .slice iA inn ic, .slice fA fn fc, .slice mA mn mc, .string so] 69) (.cells #[.int .i64 0, .string ⟨#[]⟩, .string ⟨#[]⟩, .slice none 0 0, .slice none 0 0, .slice none 0 0, .string ⟨#[]⟩] 69)
    refine bodyPost_ret (cm_ret rfl rfl H1) rfl ?_
    rw [← HQ.out]
    exact ⟨rfl, hB⟩

end Go.Proofs.YtdppooflbjlbcaaDoor.I

/- Wtb -/
/- Layer 22: Attach, part b. (gen/wt.py) -/
namespace Go.Proofs.YtdppooflbjlbcaaDoor.I
open Go.ChangeShapes Go.WideShapes Go.ChangeAt Go.RowKit Go.PlainAid
set_option linter.unusedSimpArgs false
set_option linter.unusedVariables false

set_option maxRecDepth 100000 in
set_option maxHeartbeats 8000000 in
theorem at_nocode (u : CM) (i : Nat) (m : Me) (l : Value) (w : World) (hl : u.mm.length = u.mn) (hw : Mes w u.mA u.mm) (hm : u.mm[i]? = some m) (hc : m.hc = false) : Calls Tryd.prog 33 #[.agg #[.int .i64 u.fl, .string u.nm, .string u.su, .slice u.iA u.inn u.ic, .slice u.fA u.fn u.fc, .slice u.mA u.mn u.mc, .string u.so], .int .i64 i, l] w (AtNo 1 w) := by
  obtain ⟨Q, hQ⟩ : ∃ Q, AtNo 1 w = Q := ⟨_, rfl⟩
  have HQ := Lib.hid hQ
  rw [hQ]
  clear hQ
  obtain ⟨fl, nm, su, iA, inn, ic, is, fA, fn, fc, fs, mA, mn, mc, mm, so⟩ := u
  simp only at hl hw hm ⊢
  have hi := get_ltF hm
  have hk0 : (0 : Int) ≤ (i : Int) := by omega
  have hk1 : (i : Int) < (mn : Int) := by omega
  rcases hw with h0 | ⟨g, o, rfl, hg, hcell⟩
  · rw [h0] at hm; simp at hm
  obtain ⟨_, _, _, _, m3, _⟩ := hcell i m hm
  rw [hc] at m3
  clear hcell hm hl
  go_enter Tryd.func33, Tryd.ntmps33
  go_wp2
  obtain ⟨H0, H1, hB⟩ := two_laidS w (.cells #[.int .i64 fl, .string nm, .string su, .slice iA inn ic, .slice fA fn fc, .slice (some ⟨g, o, none⟩) mn mc, .string so] 69) (.cells #[.int .i64 0, .string ⟨#[]⟩, .string ⟨#[]⟩, .slice none 0 0, .slice none 0 0, .slice none 0 0, .string ⟨#[]⟩] 69)
  refine bodyPost_ret (cm_ret rfl rfl H1) rfl ?_
  rw [← HQ.out]
  exact ⟨rfl, hB⟩

end Go.Proofs.YtdppooflbjlbcaaDoor.I

/- Wtc -/
/- Layer 22: Attach, part c. (gen/wt.py) -/
namespace Go.Proofs.YtdppooflbjlbcaaDoor.I
open Go.ChangeShapes Go.WideShapes Go.ChangeAt Go.RowKit Go.PlainAid
set_option linter.unusedSimpArgs false
set_option linter.unusedVariables false

set_option maxRecDepth 100000 in
set_option maxHeartbeats 16000000 in
theorem at_wrong (u : CM) (i : Nat) (m : Me) {A0 : Option Addr} {n cap : Nat} {ms : List SM} (w : World) (hl : u.mm.length = u.mn) (hmn : u.mn ≤ 764877654105) (hw : Mes w u.mA u.mm) (hm : u.mm[i]? = some m) (hc : m.hc = true) (hn : ms.length = n) (hN : n ≤ 9223372036854775807) (hz : A0 = none → n = 0 ∧ cap = 0) (hs : SMs w A0 ms) (hq : ckQ m.c ms = 25) : Calls Tryd.prog 33 #[.agg #[.int .i64 u.fl, .string u.nm, .string u.su, .slice u.iA u.inn u.ic, .slice u.fA u.fn u.fc, .slice u.mA u.mn u.mc, .string u.so], .int .i64 i, .slice A0 n cap] w (AtNo 25 w) := by
  obtain ⟨Q, hQ⟩ : ∃ Q, AtNo 25 w = Q := ⟨_, rfl⟩
  have HQ := Lib.hid hQ
  rw [hQ]
  clear hQ
  obtain ⟨fl, nm, su, iA, inn, ic, is, fA, fn, fc, fs, mA, mn, mc, mm, so⟩ := u
  simp only at hl hw hm hmn ⊢
  have hi := get_ltF hm
  have hk0 : (0 : Int) ≤ (i : Int) := by omega
  have hk1 : (i : Int) < (mn : Int) := by omega
  rcases hw with h0 | ⟨g0, o0, rfl, hg0, hcell⟩
  · rw [h0] at hm; simp at hm
  have HCL := Lib.hid hcell
  have HLM := Lib.hid hm
  have HLL := Lib.hid hl
  obtain ⟨mok, _, _, _, m3, m4, m5, m6, m7, m8, m9, _⟩ := hcell i m hm
  rw [hc] at m3
  have HL := Lib.hid hs
  have HN := Lib.hid hn
  clear hcell hm hl hs hn mok hi
  go_enter Tryd.func33, Tryd.ntmps33
  go_upto_region 1 with fail
  obtain ⟨H0, H1, hB⟩ := two_laidS w (.cells #[.int .i64 fl, .string nm, .string su, .slice iA inn ic, .slice fA fn fc, .slice (some ⟨g0, o0, none⟩) mn mc, .string so] 69) (.cells #[.int .i64 0, .string ⟨#[]⟩, .string ⟨#[]⟩, .slice none 0 0, .slice none 0 0, .slice none 0 0, .string ⟨#[]⟩] 69)
  generalize (w.alloc (.cells #[.int .i64 fl, .string nm, .string su, .slice iA inn ic, .slice fA fn fc, .slice (some ⟨g0, o0, none⟩) mn mc, .string so] 69)).alloc (.cells #[.int .i64 0, .string ⟨#[]⟩, .string ⟨#[]⟩, .slice none 0 0, .slice none 0 0, .slice none 0 0, .string ⟨#[]⟩] 69) = W at H0 H1 hB ⊢
  have HB := Lib.hid hB
  have HU := Lib.hid H0
  have HZ := Lib.hid H1
  replace m3 := (hB.cell (p := ⟨g0, o0 + i * 11 + 3, none⟩) hg0).trans m3
  replace m4 := (hB.cell (p := ⟨g0, o0 + i * 11 + 4, none⟩) hg0).trans m4
  replace m5 := (hB.cell (p := ⟨g0, o0 + i * 11 + 5, none⟩) hg0).trans m5
  replace m6 := (hB.cell (p := ⟨g0, o0 + i * 11 + 6, none⟩) hg0).trans m6
  replace m7 := (hB.cell (p := ⟨g0, o0 + i * 11 + 7, none⟩) hg0).trans m7
  replace m8 := (hB.cell (p := ⟨g0, o0 + i * 11 + 8, none⟩) hg0).trans m8
  replace m9 := (hB.cell (p := ⟨g0, o0 + i * 11 + 9, none⟩) hg0).trans m9
  obtain ⟨u0, u1, u2, u3, u4, u5, u6⟩ := seven_cellsR H0
  have yu := lt_heap H0
  have ym := Nat.lt_of_lt_of_le hg0 hB.size
  have KC0 := ck_any (cap := cap) m.c W HN.out (by omega) (HL.out.up hB)
  rw [hq] at KC0
  have KC := Lib.hid KC0
  clear KC0 H0 H1 hB
  go_upto_region 5 with (go_at_call 35; (with_reducible refine KC.out.mono ?_); rintro e w1 ⟨rfl, hb1⟩)
  have HB1 := Lib.hid (below_on HB.out hb1)
  have HZ1 := Lib.hid ((hb1.block _ (lt_heap HZ.out)).trans HZ.out)
  clear u0 u1 u2 u3 u4 u5 u6 m3 m4 m5 m6 m7 m8 m9 yu ym KC hb1 HU HZ
  obtain ⟨z0, z1, z2, z3, z4, z5, z6⟩ := seven_cellsR HZ1.out
  have yz := lt_heap HZ1.out
  have fz0 := frozenS HZ1.out 0
  have fz1 := frozenS HZ1.out 1
  have fz2 := frozenS HZ1.out 2
  have fz3 := frozenS HZ1.out 3
  have fz4 := frozenS HZ1.out 4
  have fz5 := frozenS HZ1.out 5
  have fz6 := frozenS HZ1.out 6
  rename_i K1 a1 K2 a2
  have HA2 := Lib.hid a2
  clear a1 a2
  go_wp2
  refine HA2.out _ _ ?_
  clear HA2
  refine wp_ret ?_
  refine bodyPost_ret (cm_ret rfl rfl (set_seven HZ1.out)) rfl ?_
  rw [← HQ.out]
  refine ⟨rfl, ?_⟩
  iterate 7 refine below_st ?_ (Nat.le_succ _) _
  exact HB1.out

end Go.Proofs.YtdppooflbjlbcaaDoor.I

/- Wtd -/
/- Layer 22: Attach, part d. (gen/wt.py) -/
namespace Go.Proofs.YtdppooflbjlbcaaDoor.I
open Go.ChangeShapes Go.WideShapes Go.ChangeAt Go.RowKit Go.PlainAid
set_option linter.unusedSimpArgs false
set_option linter.unusedVariables false

set_option maxRecDepth 100000 in
set_option maxHeartbeats 16000000 in
theorem at_right (u : CM) (i : Nat) (m : Me) {A0 : Option Addr} {n cap : Nat} {ms : List SM} (w : World) (hl : u.mm.length = u.mn) (hmn : u.mn ≤ 764877654105) (hw : Mes w u.mA u.mm) (hm : u.mm[i]? = some m) (hc : m.hc = true) (hn : ms.length = n) (hN : n ≤ 2199023255552) (hz : A0 = none → n = 0 ∧ cap = 0) (hs : SMs w A0 ms) (hq : ckQ m.c ms = 0) : Calls Tryd.prog 33 #[.agg #[.int .i64 u.fl, .string u.nm, .string u.su, .slice u.iA u.inn u.ic, .slice u.fA u.fn u.fc, .slice u.mA u.mn u.mc, .string u.so], .int .i64 i, .slice A0 n cap] w (AtRight u i m n ms w) := by
  obtain ⟨Q, hQ⟩ : ∃ Q, AtRight u i m n ms w = Q := ⟨_, rfl⟩
  have HQ := Lib.hid hQ
  rw [hQ]
  clear hQ
  obtain ⟨fl, nm, su, iA, inn, ic, is, fA, fn, fc, fs, mA, mn, mc, mm, so⟩ := u
  simp only at hl hw hm hmn ⊢
  have hi := get_ltF hm
  have hk0 : (0 : Int) ≤ (i : Int) := by omega
  have hk1 : (i : Int) < (mn : Int) := by omega
  rcases hw with h0 | ⟨g0, o0, rfl, hg0, hcell⟩
  · rw [h0] at hm; simp at hm
  have HCL := Lib.hid hcell
  have HLM := Lib.hid hm
  have HLL := Lib.hid hl
  obtain ⟨mok, _, _, _, m3, m4, m5, m6, m7, m8, m9, _⟩ := hcell i m hm
  rw [hc] at m3
  have HL := Lib.hid hs
  have HN := Lib.hid hn
  clear hcell hm hl hs hn mok hi
  go_enter Tryd.func33, Tryd.ntmps33
  go_upto_region 1 with fail
  obtain ⟨H0, H1, hB⟩ := two_laidS w (.cells #[.int .i64 fl, .string nm, .string su, .slice iA inn ic, .slice fA fn fc, .slice (some ⟨g0, o0, none⟩) mn mc, .string so] 69) (.cells #[.int .i64 0, .string ⟨#[]⟩, .string ⟨#[]⟩, .slice none 0 0, .slice none 0 0, .slice none 0 0, .string ⟨#[]⟩] 69)
  generalize (w.alloc (.cells #[.int .i64 fl, .string nm, .string su, .slice iA inn ic, .slice fA fn fc, .slice (some ⟨g0, o0, none⟩) mn mc, .string so] 69)).alloc (.cells #[.int .i64 0, .string ⟨#[]⟩, .string ⟨#[]⟩, .slice none 0 0, .slice none 0 0, .slice none 0 0, .string ⟨#[]⟩] 69) = W at H0 H1 hB ⊢
  have HB := Lib.hid hB
  have HU := Lib.hid H0
  have HZ := Lib.hid H1
  replace m3 := (hB.cell (p := ⟨g0, o0 + i * 11 + 3, none⟩) hg0).trans m3
  replace m4 := (hB.cell (p := ⟨g0, o0 + i * 11 + 4, none⟩) hg0).trans m4
  replace m5 := (hB.cell (p := ⟨g0, o0 + i * 11 + 5, none⟩) hg0).trans m5
  replace m6 := (hB.cell (p := ⟨g0, o0 + i * 11 + 6, none⟩) hg0).trans m6
  replace m7 := (hB.cell (p := ⟨g0, o0 + i * 11 + 7, none⟩) hg0).trans m7
  replace m8 := (hB.cell (p := ⟨g0, o0 + i * 11 + 8, none⟩) hg0).trans m8
  replace m9 := (hB.cell (p := ⟨g0, o0 + i * 11 + 9, none⟩) hg0).trans m9
  obtain ⟨u0, u1, u2, u3, u4, u5, u6⟩ := seven_cellsR H0
  have yu := lt_heap H0
  have ym := Nat.lt_of_lt_of_le hg0 hB.size
  have KC0 := ck_any (cap := cap) m.c W HN.out (by omega) (HL.out.up hB)
  rw [hq] at KC0
  have KC := Lib.hid KC0
  clear KC0 H0 H1 hB
  have HXO := Lib.hid (show ∀ x ∈ mm, x.ok w from fun x hx => by obtain ⟨k, hk⟩ := List.mem_iff_getElem?.1 hx; exact (HCL.out k x hk).1)
  go_upto_region 6 with (go_at_call 35; (with_reducible refine KC.out.mono ?_); rintro e w1 ⟨rfl, hb1⟩)
  have HB1 := Lib.hid (below_on HB.out hb1)
  have HU1 := Lib.hid ((hb1.block _ yu).trans HU.out)
  have HZ1 := Lib.hid ((hb1.block _ (lt_heap HZ.out)).trans HZ.out)
  have KM := Lib.hid (clone_me2 (cap := mc) w1 HLL.out hmn (Nat.lt_of_lt_of_le hg0 HB1.out.size) (fun k x hx => ⟨(HCL.out k x hx).1.up HB1.out, (HCL.out k x hx).2.up hg0 HB1.out⟩))
  clear u0 u1 u2 u3 u4 u5 u6 m3 m4 m5 m6 m7 m8 m9 yu ym KC hb1 HU HZ
  obtain ⟨u0, u1, u2, u3, u4, u5, u6⟩ := seven_cellsR HU1.out
  have yu := lt_heap HU1.out
  have hmp : 0 < mn := by omega
  go_upto_region 7 with (go_at_call 53; (with_reducible refine KM.out.mono ?_); rintro e w2 ⟨v2, rfl, ho2, hb2⟩; obtain ⟨g, cp, hv2, _, _⟩ := ho2.form hmp; obtain rfl := hv2; have hu2 := (hb2.block _ yu).trans HU1.out; have HU2 := Lib.hid hu2; obtain ⟨v0, v1, v2, v3, v4, v5, v6⟩ := seven_cellsR hu2; have yv := lt_heap hu2; have fv := frozenS hu2 5; clear hu2)
  have h0 := heap_setCell_same w2 w.heap.size 5 _ _ (.slice (some ⟨g, 0, none⟩) mn cp) HU2.out
  have HU5 := Lib.hid (show (w2.setCell ⟨w.heap.size, 5, none⟩ (.slice (some ⟨g, 0, none⟩) mn cp)).heap[w.heap.size]? = some (.cells #[.int .i64 fl, .string nm, .string su, .slice iA inn ic, .slice fA fn fc, .slice (some ⟨g, 0, none⟩) mn cp, .string so] 69) from h0)
  have HZ5 := Lib.hid (show (w2.setCell ⟨w.heap.size, 5, none⟩ (.slice (some ⟨g, 0, none⟩) mn cp)).heap[w.heap.size + 1]? = some (.cells #[.int .i64 0, .string ⟨#[]⟩, .string ⟨#[]⟩, .slice none 0 0, .slice none 0 0, .slice none 0 0, .string ⟨#[]⟩] 69) from (heap_setCell_other w2 ⟨w.heap.size, 5, none⟩ (w.heap.size + 1) _ (by show w.heap.size + 1 ≠ w.heap.size; omega)).trans ((hb2.block _ (lt_heap HZ1.out)).trans HZ1.out))
  have HB5 := Lib.hid (show Below w.heap.size w (w2.setCell ⟨w.heap.size, 5, none⟩ (.slice (some ⟨g, 0, none⟩) mn cp)) from below_st (below_on HB1.out hb2) (Nat.le_refl _) _)
  have ho5 := ownsRow_setCell_below ho2 (a := ⟨w.heap.size, 5, none⟩) yu (.slice (some ⟨g, 0, none⟩) mn cp)
  have hg1 : w1.heap.size ≤ g := (ho2.lt g rfl).1
  have hz1 := lt_heap HZ1.out
  have HGW := Lib.hid (show w.heap.size ≤ g by omega)
  have hne : w.heap.size ≠ g := by omega
  have hne2 : w.heap.size + 1 ≠ g := by omega
  have HNE := Lib.hid hne
  have HNE2 := Lib.hid hne2
  generalize hw1s : w1.heap.size = w1s at ho5 hz1
  have HW1S := Lib.hid hz1
  clear hw1s h0 v0 v1 v2 v3 v4 v5 v6 yv fv u0 u1 u2 u3 u4 u5 u6 hb2 ho2 HZ1 HU1 HB1 HU2 KM hne hne2 hg1 hz1 yu
  generalize (w2.setCell ⟨w.heap.size, 5, none⟩ (.slice (some ⟨g, 0, none⟩) mn cp)) = W5 at HU5 HZ5 HB5 ho5 ⊢
  have cg5 : W5.cell? ⟨g, i * 11 + 8, none⟩ = some (.slice m.c.mA m.c.mn m.c.mc) := by
    rw [ho5.cellAt _ (by omega), mesrow_at mm i 8 m (by decide) HLM.out]; rfl
  have fg5 : W5.frozen? ⟨g, i * 11 + 8, none⟩ = false := ho5.frozenAt _
  have hg5 : g < W5.heap.size := (ho5.lt g rfl).2
  have cu5 : W5.cell? ⟨w.heap.size, 5, none⟩ = some (.slice (some ⟨g, 0, none⟩) mn cp) := (seven_cellsR HU5.out).2.2.2.2.2.1
  have yu5 := lt_heap HU5.out
  have HO5 := Lib.hid ho5
  have KCL := Lib.hid (fun (W' : World) (hW : Below W5.heap.size W5 W') => clone_sm2 (cap := cap) W' HN.out hN hz (HL.out.up (below_on HB5.out hW)))
  clear ho5
  refine regN_start (N := 8) (S := (fun W' : World => W'.cell? ⟨w.heap.size, 5, none⟩ = some (.slice (some ⟨g, 0, none⟩) mn cp) ∧ Below W5.heap.size W5 W')) (by kernel_rfl) ?_
  change wpAnyN _ _ _ _ _ _ _ #[false, false, false, false, false, false, false, false, false] _ (World.drew _)
  have hS0 := (show (fun W' : World => W'.cell? ⟨w.heap.size, 5, none⟩ = some (.slice (some ⟨g, 0, none⟩) mn cp) ∧ Below W5.heap.size W5 W') W5.drew from ⟨cu5, (Below.refl _ _).drew⟩)
  refine regN_take (i := 0) (d := (some 44)) (v := ?v7x1) (l2 := #[true, false, false, false, false, false, false, false, false]) rfl rfl rfl (by kernel_rfl) (by kernel_rfl) (by kernel_rfl) (by kernel_rfl) (fun _ _ _ h => h) (by rfl) ?hv7x1 hS0 ?h7x1
  case hv7x1 => intro u hSu; clear hSu; go_simp; (try with_reducible rfl)
  (try simp only [Act.put, List.setIfInBounds_toArray, List.set_cons_zero, List.set_cons_succ])
  refine regN_take (i := 1) (d := (some 45)) (v := ?v7x2) (l2 := #[true, true, false, false, false, false, false, false, false]) rfl rfl rfl (by kernel_rfl) (by kernel_rfl) (by kernel_rfl) (by kernel_rfl) (fun _ _ _ h => h) (by rfl) ?hv7x2 hS0 ?h7x2
  case hv7x2 => intro u hSu; (try dsimp only at hSu); (try go_split_ands); go_simp; (try with_reducible rfl)
  (try simp only [Act.put, List.setIfInBounds_toArray, List.set_cons_zero, List.set_cons_succ])
  refine regN_take (i := 2) (d := (some 46)) (v := ?v7x3) (l2 := #[true, true, true, false, false, false, false, false, false]) rfl rfl rfl (by kernel_rfl) (by kernel_rfl) (by kernel_rfl) (by kernel_rfl) (fun _ _ _ h => h) (by rfl) ?hv7x3 hS0 ?h7x3
  case hv7x3 => intro u hSu; clear hSu; go_simp; (try with_reducible rfl)
  (try simp only [Act.put, List.setIfInBounds_toArray, List.set_cons_zero, List.set_cons_succ])
  refine regN_take (i := 3) (d := (some 47)) (v := ?v7x4) (l2 := #[true, true, true, true, false, false, false, false, false]) rfl rfl rfl (by kernel_rfl) (by kernel_rfl) (by kernel_rfl) (by kernel_rfl) (fun _ _ _ h => h) (by rfl) ?hv7x4 hS0 ?h7x4
  case hv7x4 => intro u hSu; clear hSu; go_simp; (try with_reducible rfl)
  (try simp only [Act.put, List.setIfInBounds_toArray, List.set_cons_zero, List.set_cons_succ])
  refine regN_ready (rs := [4]) (by kernel_rfl) (by simp) ?_
  refine (AllN.cons (i := 4) (l2 := #[true, true, true, true, true, false, false, false, false]) rfl rfl (fun K hK => ?_) AllN.nil)
  go_simp
  go_at_call 54
  (with_reducible refine (KCL.out _ (Below.refl _ _).drew).mono ?_)
  rintro e w10 ⟨A10, c10, rfl, ho10, hb10⟩
  have hb11 := below_on (show Below W5.heap.size W5 _ from (Below.refl _ _).drew) hb10
  have cg := (hb11.cell (p := ⟨g, i * 11 + 8, none⟩) hg5).trans cg5
  have fg := (hb11.frozen (p := ⟨g, i * 11 + 8, none⟩) hg5).trans fg5
  have yg := Nat.lt_of_lt_of_le hg5 hb11.size
  have HBN := Lib.hid hb11
  have HO10 := Lib.hid ho10
  clear hb10 hb11 ho10
  go_simp
  have hS1 : ((fun W' : World => W'.cell? ⟨w.heap.size, 5, none⟩ = some (.slice (some ⟨g, 0, none⟩) mn cp) ∧ Below W5.heap.size W5 W') : World → Prop) _ := (show (fun W' : World => W'.cell? ⟨w.heap.size, 5, none⟩ = some (.slice (some ⟨g, 0, none⟩) mn cp) ∧ Below W5.heap.size W5 W') _ from ⟨(HBN.out.cell (p := ⟨w.heap.size, 5, none⟩) yu5).trans cu5, HBN.out⟩)
  refine hK _ _ (fun _ => hS1) ?_
  clear hK K
  (try simp only [Act.put, List.setIfInBounds_toArray, List.set_cons_zero, List.set_cons_succ])
  refine regN_takeC [7, 6] (i := 5) (d := (some 49)) (v := ?v7x5) (l2 := #[true, true, true, true, true, true, false, false, false]) rfl rfl rfl (by kernel_rfl) (by kernel_rfl) (by kernel_rfl) (by kernel_rfl) (fun _ _ _ h => h) (by rfl) ?hv7x5 hS1 ?h7x5
  case hv7x5 => intro u hSu; clear hSu; go_simp; (try with_reducible rfl)
  (try simp only [Act.put, List.setIfInBounds_toArray, List.set_cons_zero, List.set_cons_succ])
  refine regN_takeC [7] (i := 6) (d := (some 50)) (v := ?v7x6) (l2 := #[true, true, true, true, true, true, true, false, false]) rfl rfl rfl (by kernel_rfl) (by kernel_rfl) (by kernel_rfl) (by kernel_rfl) (fun _ _ _ h => h) (by rfl) ?hv7x6 hS1 ?h7x6
  case hv7x6 => intro u hSu; clear hSu; go_simp; (try with_reducible rfl)
  (try simp only [Act.put, List.setIfInBounds_toArray, List.set_cons_zero, List.set_cons_succ])
  refine regN_take (i := 7) (d := (some 51)) (v := ?v7x7) (l2 := #[true, true, true, true, true, true, true, true, false]) rfl rfl rfl (by kernel_rfl) (by kernel_rfl) (by kernel_rfl) (by kernel_rfl) (fun _ _ _ h => h) (by rfl) ?hv7x7 hS1 ?h7x7
  case hv7x7 => intro u hSu; clear hSu; go_simp; (try with_reducible rfl)
  (try simp only [Act.put, List.setIfInBounds_toArray, List.set_cons_zero, List.set_cons_succ])
  refine regN_ready (rs := [8]) (by kernel_rfl) (by simp) ?_
  refine (AllN.cons (i := 8) (l2 := #[true, true, true, true, true, true, true, true, true]) rfl rfl (fun K hK => ?_) AllN.nil)
  go_simp
  refine hK _ _ (fun h => absurd rfl h) ?_
  clear hK K
  (try simp only [Act.put, List.setIfInBounds_toArray, List.set_cons_zero, List.set_cons_succ])
  refine regN_done (by kernel_rfl) ?_ _
  have HU6 := Lib.hid ((heap_setCell_other w10 ⟨g, i * 11 + 8, none⟩ w.heap.size (.slice A10 n c10) HNE.out).trans ((HBN.out.block _ yu5).trans HU5.out))
  have HZ6 := Lib.hid ((heap_setCell_other w10 ⟨g, i * 11 + 8, none⟩ (w.heap.size + 1) (.slice A10 n c10) HNE2.out).trans ((HBN.out.block _ (lt_heap HZ5.out)).trans HZ5.out))
  have hP6 : AtQ w g mn cp i n c10 w1s W5.drew.heap.size mm A10 ms (w10.setCell ⟨g, i * 11 + 8, none⟩ (.slice A10 n c10)) := ⟨((own_below HO5.out HBN.out).stored (i * 11 + 8) _).1, HO10.out.set (a := ⟨g, i * 11 + 8, none⟩) (show g < W5.drew.heap.size by simpa using hg5) _, below_st (below_on HB5.out HBN.out) (show w.heap.size ≤ g by have := HGW.out; omega) _⟩
  have HP6 := Lib.hid hP6
  have hz5 := lt_heap HZ5.out
  have HZ5L := Lib.hid hz5
  clear hP6 cg fg yg cg5 fg5 cu5 hz5
  generalize w10.setCell ⟨g, i * 11 + 8, none⟩ (.slice A10 n c10) = W6 at HU6 HZ6 HP6 ⊢
  obtain ⟨u0, u1, u2, u3, u4, u5, u6⟩ := seven_cellsR HU6.out
  obtain ⟨z0, z1, z2, z3, z4, z5, z6⟩ := seven_cellsR HZ6.out
  have yu6 := lt_heap HU6.out
  have yz6 := lt_heap HZ6.out
  have fz0 := frozenS HZ6.out 0
  have fz1 := frozenS HZ6.out 1
  have fz2 := frozenS HZ6.out 2
  have fz3 := frozenS HZ6.out 3
  have fz4 := frozenS HZ6.out 4
  have fz5 := frozenS HZ6.out 5
  have fz6 := frozenS HZ6.out 6
  go_wp2
  refine bodyPost_ret (cm_ret rfl rfl (set_seven HZ6.out)) rfl ?_
  rw [← HQ.out]
  have hl1 : w.heap.size + 1 < w1s := HW1S.out
  have hl2 : w.heap.size + 1 < W5.drew.heap.size := by simpa using HZ5L.out
  refine ⟨g, cp, A10, c10, rfl, AtQ.fin (cp := cp) (nn := n) (b1 := w1s) (b2 := W5.drew.heap.size) (m := m) ?_ HLL.out HLM.out HN.out (by omega) HXO.out (HL.out.fok)⟩
  refine AtQ.stp ?_ hl1 hl2 (Nat.le_succ _) 6 _
  refine AtQ.stp ?_ hl1 hl2 (Nat.le_succ _) 5 _
  refine AtQ.stp ?_ hl1 hl2 (Nat.le_succ _) 4 _
  refine AtQ.stp ?_ hl1 hl2 (Nat.le_succ _) 3 _
  refine AtQ.stp ?_ hl1 hl2 (Nat.le_succ _) 2 _
  refine AtQ.stp ?_ hl1 hl2 (Nat.le_succ _) 1 _
  refine AtQ.stp ?_ hl1 hl2 (Nat.le_succ _) 0 _
  exact HP6.out

end Go.Proofs.YtdppooflbjlbcaaDoor.I
