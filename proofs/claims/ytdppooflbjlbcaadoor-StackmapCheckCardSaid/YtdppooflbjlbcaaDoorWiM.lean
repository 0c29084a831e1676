import Derived.Test.YtdppooflbjlbcaaDoorWdM
import Derived.Test.YtdppooflbjlbcaaDoorWhM
import Derived.Laws.ResultCell

/- Wi -/
/- Layer 22: the chapter's sample; Clone. (Written by gen/wi.py.) -/
namespace Go.Proofs.YtdppooflbjlbcaaDoor.I
open Go.ChangeShapes Go.WideShapes Go.ChangeAt Go.RowKit Go.PlainAid
set_option linter.unusedSimpArgs false
set_option linter.unusedVariables false

def exJ22 (op a t : Int) : In := ⟨op, a, 0, t, none, 0, 0, [], none, 0, 0, [], ⟨#[]⟩, ⟨#[]⟩, ⟨#[]⟩, ⟨#[]⟩⟩
def exS : List In := [exJ22 2 1 0, exJ22 36 0 3, exJ22 52 0 4, exJ22 0 0 0, exJ22 58 0 0]
def exSC (B : Nat) : Cd := ⟨1, 0, some ⟨B, 0, none⟩, 5, 5, exS, none, 0, 0, [], none, 0, 0, none, 0, 0⟩
theorem ord_is22 {L M : List Int} (hM : M.Pairwise (· < ·)) (h : ∀ x, x ∈ L ↔ x ∈ M) : ordL L = M := uniq_lt (ordL_spec L).1 hM fun x => by rw [(ordL_spec L).2]; exact h x
theorem ord_one22 (a : Int) : ordL [a] = [a] := ord_is22 (by simp) (fun x => Iff.rfl)
theorem ord_no22 : ordL [] = [] := ord_is22 (by simp) (fun x => Iff.rfl)
theorem exS_nx : nxL 5 (exJ22 2 1 0) 0 = [1] ∧ nxL 5 (exJ22 36 0 3) 1 = [3, 2] ∧ nxL 5 (exJ22 52 0 4) 2 = [4] ∧ nxL 5 (exJ22 0 0 0) 3 = [4] ∧ nxL 5 (exJ22 58 0 0) 4 = [] := ⟨by kernel_rfl, by kernel_rfl, by kernel_rfl, by kernel_rfl, by kernel_rfl⟩
theorem exS_sc (B : Nat) : scL (exSC B) 0 = [1] ∧ scL (exSC B) 1 = [2, 3] ∧ scL (exSC B) 2 = [4] ∧ scL (exSC B) 3 = [4] ∧ scL (exSC B) 4 = [] := by
  obtain ⟨n0, n1, n2, n3, n4⟩ := exS_nx
  refine ⟨?_, ?_, ?_, ?_, ?_⟩
  · rw [scL_yes (c := exSC B) (x := 0) (i := exJ22 2 1 0) rfl (by kernel_rfl)]
    show ordL (nxL 5 (exJ22 2 1 0) 0) = _
    rw [n0]; exact ord_one22 _
  · rw [scL_yes (c := exSC B) (x := 1) (i := exJ22 36 0 3) rfl (by kernel_rfl)]
    show ordL (nxL 5 (exJ22 36 0 3) 1) = _
    rw [n1]; exact ord_is22 (by simp) (fun x => by simp; omega)
  · rw [scL_yes (c := exSC B) (x := 2) (i := exJ22 52 0 4) rfl (by kernel_rfl)]
    show ordL (nxL 5 (exJ22 52 0 4) 2) = _
    rw [n2]; exact ord_one22 _
  · rw [scL_yes (c := exSC B) (x := 3) (i := exJ22 0 0 0) rfl (by kernel_rfl)]
    show ordL (nxL 5 (exJ22 0 0 0) 3) = _
    rw [n3]; exact ord_one22 _
  · rw [scL_yes (c := exSC B) (x := 4) (i := exJ22 58 0 0) rfl (by kernel_rfl)]
    show ordL (nxL 5 (exJ22 58 0 0) 4) = _
    rw [n4]; exact ord_no22
theorem exS_hd (B : Nat) (x : Int) : hdL (exSC B) x = [] := by
  unfold hdL
  split
  · rfl
  · rfl
theorem exS_ed (B : Nat) : edL (exSC B) 0 = [1] ∧ edL (exSC B) 1 = [2, 3] ∧ edL (exSC B) 2 = [4] ∧ edL (exSC B) 3 = [4] ∧ edL (exSC B) 4 = [] := by
  obtain ⟨n0, n1, n2, n3, n4⟩ := exS_sc B
  unfold edL
  simp only [exS_hd, List.map_nil, List.append_nil, n0, n1, n2, n3, n4]
  exact ⟨ord_one22 _, ord_is22 (by simp) (fun x => Iff.rfl), ord_one22 _, ord_one22 _, ord_no22⟩
theorem exS_ds (B : Nat) : distL (exSC B) = [0, 1, 2, 2, 3] := by
  obtain ⟨n0, n1, n2, n3, n4⟩ := exS_ed B
  unfold distL
  show dsOut (exSC B) 6 [0, -1, -1, -1, -1] [0] = _
  simp [dsOut, dsIn, n0, n1, n2, n3, n4]
theorem exS_re (B : Nat) : reL (exSC B) = [true, true, true, true, true] := by
  unfold reL
  rw [exS_ds]
  rfl
theorem exS_bt (B : Nat) : btL (exSC B) = [false, false, false, true, true] := by kernel_rfl
theorem exS_rq (B : Nat) : rqL (exSC B) = [3, 4] := by
  have h : ∀ k, rqP (exSC B) k = ([true, true, true, true, true].getD k false && ([false, false, false, true, true].getD k false || tmP (exSC B) k)) := by
    intro k
    unfold rqP
    rw [exS_re, exS_bt]
  unfold rqL rowsI
  show ((List.range 5).filter (rqP (exSC B))).map _ = _
  rw [show rqP (exSC B) = fun k => ([true, true, true, true, true].getD k false && ([false, false, false, true, true].getD k false || tmP (exSC B) k)) from funext h]
  kernel_rfl
theorem ins_new22 {W : World} {B : Nat} {L : List In} {t : TypeId} (h : W.heap[B]? = some (.cells (irow L).toArray t)) (hok : ∀ i ∈ L, i.ok W W.heap.size) : Ins W W.heap.size (some ⟨B, 0, none⟩) L := by
  refine Or.inr ⟨B, 0, rfl, lt_heap h, fun k i hk => ?_⟩
  have at' : ∀ j v, j < 10 → (icells i)[j]? = some v → W.cell? ⟨B, 0 + k * 10 + j, none⟩ = some v := by
    intro j v hj hv
    have := irow_at L k j i hj hk
    rw [hv] at this
    rw [Nat.zero_add]
    simp [World.cell?, h, this]
  exact ⟨hok i (List.mem_of_getElem? hk), at' 0 _ (by decide) rfl, at' 1 _ (by decide) rfl, at' 2 _ (by decide) rfl, at' 3 _ (by decide) rfl, at' 4 _ (by decide) rfl, at' 5 _ (by decide) rfl, at' 6 _ (by decide) rfl, at' 7 _ (by decide) rfl, at' 8 _ (by decide) rfl, at' 9 _ (by decide) rfl⟩
theorem exS_all {P : In → Prop} (h : ∀ op a t, P (exJ22 op a t)) : ∀ i ∈ exS, P i := by
  intro i hi
  unfold exS at hi
  simp only [List.mem_cons, List.not_mem_nil, or_false] at hi
  rcases hi with rfl | rfl | rfl | rfl | rfl <;> exact h _ _ _
theorem exJ22_ok (op a t : Int) (w : World) (B : Nat) : (exJ22 op a t).ok w B := ⟨rfl, Nat.le_refl _, by show 0 ≤ 9223372036854775807; omega, Or.inl rfl, rfl, Nat.le_refl _, by show 0 ≤ 9223372036854775807; omega, Or.inl rfl⟩
theorem exS_k22 {W : World} {B : Nat} (h : W.heap[B]? = some (.cells (irow exS).toArray 43)) : (exSC B).k22 W := by
  have hi : Ins W W.heap.size (some ⟨B, 0, none⟩) exS := ins_new22 h (exS_all (P := fun i => i.ok W W.heap.size) (fun op a t => exJ22_ok op a t _ _))
  have hz : ∀ i ∈ exS, i.nz := exS_all (P := fun i => i.nz) (fun _ _ _ => ⟨fun _ => rfl, fun _ => rfl⟩)
  exact ⟨⟨rfl, hi, by show 5 ≤ 1101; omega, rfl, Or.inl rfl, by show 0 ≤ 100; omega, hz, exS_all (P := fun i => i.tn ≤ 17592186043904) (fun _ _ _ => by show 0 ≤ 17592186043904; omega)⟩,
    ⟨rfl, hi, by show 5 ≤ 1000000; omega, rfl, Or.inl rfl, by show 0 ≤ 1000000; omega, hz, exS_all (P := fun i => i.tn ≤ 1000000) (fun _ _ _ => by show 0 ≤ 1000000; omega)⟩,
    ⟨by show 5 ≤ 300; omega, by show 0 ≤ 60; omega, exS_all (P := fun i => i.tn ≤ 100) (fun _ _ _ => by show 0 ≤ 100; omega)⟩⟩
def exM (x : Int) : SM := ⟨x, fmZ⟩
theorem ck34 (B : Nat) : ckQ (exSC B) [exM 3, exM 4] = 0 := by kernel_rfl
theorem ck5 (B : Nat) : ckQ (exSC B) [exM 5] = 25 := by kernel_rfl
theorem sl23 (B : Nat) : slL (rqL (exSC B)) [exM 2, exM 3] = [exM 3] := by rw [exS_rq]; kernel_rfl
theorem sms_new {W : World} {B : Nat} {L : List SM} {t : TypeId} (h : W.heap[B]? = some (.cells (smrow L).toArray t)) (hok : ∀ m ∈ L, m.f.ok W) : SMs W (some ⟨B, 0, none⟩) L := by
  refine Or.inr ⟨B, 0, rfl, lt_heap h, fun k m hk => ?_⟩
  have at' : ∀ j v, j < 4 → (smcells m)[j]? = some v → W.cell? ⟨B, 0 + k * 4 + j, none⟩ = some v := by
    intro j v hj hv
    have := smrow_at L k j m hj hk
    rw [hv] at this
    rw [Nat.zero_add]
    simp [World.cell?, h, this]
  exact ⟨hok m (List.mem_of_getElem? hk), at' 0 _ (by decide) rfl, at' 1 _ (by decide) rfl, at' 2 _ (by decide) rfl, at' 3 _ (by decide) rfl⟩
theorem exM_ok {W : World} {L : List SM} (h : ∀ m ∈ L, ∃ x, m = exM x) : ∀ m ∈ L, m.f.ok W := by
  intro m hm
  obtain ⟨x, rfl⟩ := h m hm
  exact fmZ_ok W
theorem cd_size : (Tryd.prog.info? 27).map (·.size) = some 6 := by kernel_rfl
theorem cd_under : ∃ fs, Tryd.prog.underlying 27 = some (.struct fs) := ⟨_, Tryd.underlying27⟩
theorem set_six {w : World} {B : Nat} {t : TypeId} {x0 x1 x2 x3 x4 x5 a b c d e f : Value} (hh : w.heap[B]? = some (.cells #[x0, x1, x2, x3, x4, x5] t)) :
    ((((((w.setCell ⟨B, 0, none⟩ a).setCell ⟨B, 1, none⟩ b).setCell ⟨B, 2, none⟩ c).setCell ⟨B, 3, none⟩ d).setCell ⟨B, 4, none⟩ e).setCell ⟨B, 5, none⟩ f).heap[B]? = some (.cells #[a, b, c, d, e, f] t) := by
  have h0 : (w.setCell ⟨B, 0, none⟩ a).heap[B]? = some (.cells #[a, x1, x2, x3, x4, x5] t) := heap_setCell_same w B 0 _ _ a hh
  generalize w.setCell ⟨B, 0, none⟩ a = w0 at h0 ⊢
  have h1 : (w0.setCell ⟨B, 1, none⟩ b).heap[B]? = some (.cells #[a, b, x2, x3, x4, x5] t) := heap_setCell_same w0 B 1 _ _ b h0
  generalize w0.setCell ⟨B, 1, none⟩ b = w1 at h1 ⊢
  have h2 : (w1.setCell ⟨B, 2, none⟩ c).heap[B]? = some (.cells #[a, b, c, x3, x4, x5] t) := heap_setCell_same w1 B 2 _ _ c h1
  generalize w1.setCell ⟨B, 2, none⟩ c = w2 at h2 ⊢
  have h3 : (w2.setCell ⟨B, 3, none⟩ d).heap[B]? = some (.cells #[a, b, c, d, x4, x5] t) := heap_setCell_same w2 B 3 _ _ d h2
  generalize w2.setCell ⟨B, 3, none⟩ d = w3 at h3 ⊢
  have h4 : (w3.setCell ⟨B, 4, none⟩ e).heap[B]? = some (.cells #[a, b, c, d, e, x5] t) := heap_setCell_same w3 B 4 _ _ e h3
  generalize w3.setCell ⟨B, 4, none⟩ e = w4 at h4 ⊢
  exact heap_setCell_same w4 B 5 _ _ f h4
theorem frozenS {W : World} {B : Nat} {cs : Array Value} {t : TypeId} (h : W.heap[B]? = some (.cells cs t)) (j : Nat) : W.frozen? ⟨B, j, none⟩ = false := by simp [World.frozen?, h]
theorem cd_ret {fn : Func} (hf : fn.results = #[.cell 0 27]) {a : Act} {w : World} {B : Nat} {x0 x1 x2 x3 x4 x5 : Value} (ht : a.tmps.getD 0 undef = .pointer (some ⟨B, 0, none⟩)) (hg : w.heap[B]? = some (.cells #[x0, x1, x2, x3, x4, x5] 27)) :
    (results fn a.tmps).run Tryd.prog w = .ok (.agg #[x0, x1, x2, x3, x4, x5]) w := by
  obtain ⟨fs, hu⟩ := cd_under
  exact results_cell_row hf a.tmps w B _ _ (0, 0) _ ht hg hu rfl cd_size
def SampleRet (w : World) (e : Ending) (w' : World) : Prop :=
  ∃ B, e = .returned (.agg #[.int .i64 1, .int .i64 0, .slice (some ⟨B, 0, none⟩) 5 5, .slice none 0 0, .slice none 0 0, .slice none 0 0]) ∧ w.heap.size ≤ B ∧ w'.heap[B]? = some (.cells (irow exS).toArray 43) ∧ Below w.heap.size w w'
set_option maxRecDepth 100000 in
set_option maxHeartbeats 8000000 in
theorem sample_any (w : World) : Calls Tryd.prog 47 #[] w (SampleRet w) := by
  obtain ⟨Q, hQ⟩ : ∃ Q, SampleRet w = Q := ⟨_, rfl⟩
  have HQ := Lib.hid hQ
  rw [hQ]
  clear hQ
  go_enter Tryd.func47, Tryd.ntmps47
  go_wp2
  obtain ⟨H0, H1, hB⟩ := two_laidS w (.cells #[.int .i64 1, .int .i64 0, .slice (some ⟨w.heap.size + 1, 0, none⟩) 5 5, .slice none 0 0, .slice none 0 0, .slice none 0 0] 27) (.cells (irow exS).toArray 43)
  refine bodyPost_ret (cd_ret rfl rfl H0) rfl ?_
  rw [← HQ.out]
  exact ⟨w.heap.size + 1, rfl, Nat.le_succ _, H1, hB⟩
/-- slices.Clone of a row of maps that is not empty -/
theorem own_lit0M {w : World} {B : Nat} (hB : B ≤ w.heap.size) : (w.alloc (.cells #[] 51)).ownsRow B 51 4 (.slice (some ⟨w.heap.size, 0, none⟩) 0 0) 0 (smrow []) :=
  ⟨rfl, Or.inr ⟨w.heap.size, 0, #[], rfl, hB, World.alloc_heap_new _ _, Nat.zero_le _, Nat.zero_le _, rfl, rfl⟩⟩
theorem wpList_append_copyM {w : World} {ops : Array Oper} {rest : List Oper} {o : Oper} {a : Act} {Q : Exit → Act → World → Prop} (hg : o.guard = none) (s x : Operand)
    (hop : o.op = Op.call { callee := Callee.builtin Builtin.append, args := #[s, x], argTypes := #[24, 24] })
    (base m c : Nat) (L : List SM) (v : Value) {gx ox : Nat} (hs : a.eval s = v) (hown : w.ownsRow base 51 4 v 0 (smrow [])) (hx : a.eval x = .slice (some ⟨gx, ox, none⟩) m c)
    (hi : SMs w (some ⟨gx, ox, none⟩) L) (hm : L.length = m) (hb : m ≤ 100000) (hbase : base ≤ w.heap.size)
    (h : ∀ v' w', w'.ownsRow base 51 4 v' m (smrow L) → w.grownBy w' v.ownBlock → wpList Tryd.prog ops Q rest (a.put o.dst v') w') : wpList Tryd.prog ops Q (o :: rest) a w := by
  obtain ⟨i0, hi0, hz0, hz1, hz2⟩ := info_parts infoSM
  refine _root_.Go.wpList_append_own (w := w) hg s x 24 hop base 51 i0 _ 4 64 Tryd.underlying24 hi0 hz0 hz1 hz2 rfl (by decide) v 0 (smrow []) hs hown ⟨gx, ox, none⟩ m c (smrow L) hx (by rw [smrow_len, hm]) (fun j u hu => ?_) (smrow_cell _) (by unfold maxLen; omega) (by omega) hbase ?_
  · have hj : j < L.length * 4 := by
      rw [← smrow_len]
      rcases Nat.lt_or_ge j (smrow L).length with h | h
      · exact h
      · rw [List.getElem?_eq_none h] at hu; cases hu
    have hk : j / 4 < L.length := by omega
    have h1 := smrow_at L (j / 4) (j % 4) _ (Nat.mod_lt _ (by decide)) (List.getElem?_eq_getElem hk)
    rw [show j / 4 * 4 + j % 4 = j by omega, hu] at h1
    rw [Addr.add_lit]
    rcases hi with h0 | ⟨g, o, hA, hg, hc⟩
    · rw [h0] at hk; exact absurd hk (Nat.not_lt_zero _)
    · obtain ⟨rfl, rfl⟩ : gx = g ∧ ox = o := by injection hA with e; injection e with e1 e2; exact ⟨e1, e2⟩
      obtain ⟨_, c0, c1, c2, c3⟩ := hc (j / 4) _ (List.getElem?_eq_getElem hk)
      have hr : ∀ r, j % 4 = r → ox + j = ox + j / 4 * 4 + r := by intro r hr; omega
      have hlt := Nat.mod_lt j (show 0 < 4 by decide)
      rcases (by omega : j % 4 = 0 ∨ j % 4 = 1 ∨ j % 4 = 2 ∨ j % 4 = 3) with e | e | e | e <;> rw [hr _ e] <;> rw [e] at h1 <;> cases h1 <;> assumption
  · intro v' w' h1 h2 _
    rw [Nat.zero_add] at h1
    exact h v' w' (by simpa [smrow] using h1) h2
theorem slnilM (a : Addr) (n c : Nat) (w : World) : (binOp .eql 24 (.slice (some a) n c) (.slice none 0 0)).run Tryd.prog w = .ok (.bool false) w := by
  first | kernel_rfl | simp [go_sem, Tryd.underlying24] | rfl
set_option maxRecDepth 100000 in
set_option maxHeartbeats 8000000 in
theorem clone_sm {gx ox n cap : Nat} {L : List SM} (w : World) (hn : L.length = n) (hN : n ≤ 100000) (hp : SMs w (some ⟨gx, ox, none⟩) L) :
    Calls Tryd.prog 54 #[.slice (some ⟨gx, ox, none⟩) n cap] w (SmOwn w L) := by
  have HP := Lib.hid hp
  have HN := Lib.hid hn
  clear hp hn
  have e1 := fun w => slnilM ⟨gx, ox, none⟩ n cap w
  have hown0 := own_lit0M (w := w) (B := w.heap.size) (Nat.le_refl _)
  have hbz := below_al (Below.refl _ w) (.cells #[] 51)
  go_enter Tryd.func54, Tryd.ntmps54
  go_wp2_with (at_builtin; refine wpList_append_copyM (by rfl) _ _ (by rfl) w.heap.size n cap L _ (by rfl) hown0 (by rfl) (HP.out.up hbz) HN.out hN (by simp) ?_; intro v1 wE ho1 hg1; have hbE := grown_own hbz hown0 hg1)
  go_ret
  exact ⟨v1, rfl, by rw [HN.out]; exact ho1, hbE⟩

end Go.Proofs.YtdppooflbjlbcaaDoor.I

/- Wj -/
/- Layer 22: Attach at the chapter's sample. (Written by gen/wj.py.) -/
namespace Go.Proofs.YtdppooflbjlbcaaDoor.I
open Go.ChangeShapes Go.WideShapes Go.ChangeAt Go.RowKit Go.PlainAid
set_option linter.unusedSimpArgs false
set_option linter.unusedVariables false

theorem cm_size : (Tryd.prog.info? 69).map (·.size) = some 7 := by kernel_rfl
theorem cm_under : ∃ fs, Tryd.prog.underlying 69 = some (.struct fs) := ⟨_, Tryd.underlying69⟩
theorem cm_ret {fn : Func} (hf : fn.results = #[.cell 6 69, .tmp 7]) {a : Act} {w : World} {B : Nat} {x0 x1 x2 x3 x4 x5 x6 : Value} (ht : a.tmps.getD 6 undef = .pointer (some ⟨B, 0, none⟩)) (hg : w.heap[B]? = some (.cells #[x0, x1, x2, x3, x4, x5, x6] 69)) :
    (results fn a.tmps).run Tryd.prog w = .ok (.tuple #[.agg #[x0, x1, x2, x3, x4, x5, x6], a.tmps.getD 7 undef]) w := by
  rw [results_cell_tmp hf, ht]
  obtain ⟨fs, hu⟩ := cm_under
  have hl := run_loadVar_row (P := Tryd.prog) w B 69 69 #[x0, x1, x2, x3, x4, x5, x6] (0, 0) _ hg hu rfl cm_size
  simp [asAddr, Result.andThen, hl]
theorem set_seven {w : World} {B : Nat} {t : TypeId} {x0 x1 x2 x3 x4 x5 x6 a b c d e f g : Value} (hh : w.heap[B]? = some (.cells #[x0, x1, x2, x3, x4, x5, x6] t)) :
    (((((((w.setCell ⟨B, 0, none⟩ a).setCell ⟨B, 1, none⟩ b).setCell ⟨B, 2, none⟩ c).setCell ⟨B, 3, none⟩ d).setCell ⟨B, 4, none⟩ e).setCell ⟨B, 5, none⟩ f).setCell ⟨B, 6, none⟩ g).heap[B]? = some (.cells #[a, b, c, d, e, f, g] t) := by
  have h0 : (w.setCell ⟨B, 0, none⟩ a).heap[B]? = some (.cells #[a, x1, x2, x3, x4, x5, x6] t) := heap_setCell_same w B 0 _ _ a hh
  generalize w.setCell ⟨B, 0, none⟩ a = w0 at h0 ⊢
  have h1 : (w0.setCell ⟨B, 1, none⟩ b).heap[B]? = some (.cells #[a, b, x2, x3, x4, x5, x6] t) := heap_setCell_same w0 B 1 _ _ b h0
  generalize w0.setCell ⟨B, 1, none⟩ b = w1 at h1 ⊢
  have h2 : (w1.setCell ⟨B, 2, none⟩ c).heap[B]? = some (.cells #[a, b, c, x3, x4, x5, x6] t) := heap_setCell_same w1 B 2 _ _ c h1
  generalize w1.setCell ⟨B, 2, none⟩ c = w2 at h2 ⊢
  have h3 : (w2.setCell ⟨B, 3, none⟩ d).heap[B]? = some (.cells #[a, b, c, d, x4, x5, x6] t) := heap_setCell_same w2 B 3 _ _ d h2
  generalize w2.setCell ⟨B, 3, none⟩ d = w3 at h3 ⊢
  have h4 : (w3.setCell ⟨B, 4, none⟩ e).heap[B]? = some (.cells #[a, b, c, d, e, x5, x6] t) := heap_setCell_same w3 B 4 _ _ e h3
  generalize w3.setCell ⟨B, 4, none⟩ e = w4 at h4 ⊢
  have h5 : (w4.setCell ⟨B, 5, none⟩ f).heap[B]? = some (.cells #[a, b, c, d, e, f, x6] t) := heap_setCell_same w4 B 5 _ _ f h4
  generalize w4.setCell ⟨B, 5, none⟩ f = w5 at h5 ⊢
  exact heap_setCell_same w5 B 6 _ _ g h5
theorem seven_other {w : World} {B k : Nat} {a b c d e f g : Value} (h : k ≠ B) : (((((((w.setCell ⟨B, 0, none⟩ a).setCell ⟨B, 1, none⟩ b).setCell ⟨B, 2, none⟩ c).setCell ⟨B, 3, none⟩ d).setCell ⟨B, 4, none⟩ e).setCell ⟨B, 5, none⟩ f).setCell ⟨B, 6, none⟩ g).heap[k]? = w.heap[k]? := by
  rw [heap_setCell_other _ _ _ _ h, heap_setCell_other _ _ _ _ h, heap_setCell_other _ _ _ _ h, heap_setCell_other _ _ _ _ h, heap_setCell_other _ _ _ _ h, heap_setCell_other _ _ _ _ h, heap_setCell_other _ _ _ _ h]
theorem seven_cells {W : World} {B : Nat} {a b c d e f g : Value} {t : TypeId} (hh : W.heap[B]? = some (.cells #[a, b, c, d, e, f, g] t)) :
    W.cell? ⟨B, 0, none⟩ = some a ∧ W.cell? ⟨B, 1, none⟩ = some b ∧ W.cell? ⟨B, 2, none⟩ = some c ∧ W.cell? ⟨B, 3, none⟩ = some d ∧ W.cell? ⟨B, 4, none⟩ = some e ∧ W.cell? ⟨B, 5, none⟩ = some f ∧ W.cell? ⟨B, 6, none⟩ = some g := by
  refine ⟨?_, ?_, ?_, ?_, ?_, ?_, ?_⟩ <;> simp [World.cell?, hh]
/-- the method of the chapter's sample -/
def mecells (B : Nat) : List Value := [.int .i64 0, .string ⟨#[]⟩, .string ⟨#[]⟩, .bool true, .int .i64 1, .int .i64 0, .slice (some ⟨B, 0, none⟩) 5 5, .slice none 0 0, .slice none 0 0, .slice none 0 0, .slice none 0 0]
theorem infoMe : (Tryd.prog.info? 77).map (fun i => (i.zero, i.size, i.bytes)) = some (some (.agg #[.int .i64 0, .string ⟨#[]⟩, .string ⟨#[]⟩, .bool false, .int .i64 0, .int .i64 0, .slice none 0 0, .slice none 0 0, .slice none 0 0, .slice none 0 0, .slice none 0 0]), 11, 184) := by kernel_rfl
theorem slnilMe (a : Addr) (n c : Nat) (w : World) : (binOp .eql 67 (.slice (some a) n c) (.slice none 0 0)).run Tryd.prog w = .ok (.bool false) w := by
  first | kernel_rfl | simp [go_sem, Tryd.underlying67] | rfl
theorem own_lit0Me {w : World} {B : Nat} (hB : B ≤ w.heap.size) : (w.alloc (.cells #[] 77)).ownsRow B 77 11 (.slice (some ⟨w.heap.size, 0, none⟩) 0 0) 0 [] :=
  ⟨rfl, Or.inr ⟨w.heap.size, 0, #[], rfl, hB, World.alloc_heap_new _ _, Nat.zero_le _, Nat.zero_le _, rfl, rfl⟩⟩
theorem wpList_append_copyMe {w : World} {ops : Array Oper} {rest : List Oper} {o : Oper} {a : Act} {Q : Exit → Act → World → Prop} (hg : o.guard = none) (s x : Operand)
    (hop : o.op = Op.call { callee := Callee.builtin Builtin.append, args := #[s, x], argTypes := #[67, 67] })
    (base B : Nat) (v : Value) {gx : Nat} (hs : a.eval s = v) (hown : w.ownsRow base 77 11 v 0 []) (hx : a.eval x = .slice (some ⟨gx, 0, none⟩) 1 1)
    (hi : ∀ j u, (mecells B)[j]? = some u → w.cell? ⟨gx, j, none⟩ = some u) (hbase : base ≤ w.heap.size)
    (h : ∀ v' w', w'.ownsRow base 77 11 v' 1 (mecells B) → w.grownBy w' v.ownBlock → wpList Tryd.prog ops Q rest (a.put o.dst v') w') : wpList Tryd.prog ops Q (o :: rest) a w := by
  obtain ⟨i0, hi0, hz0, hz1, hz2⟩ := info_parts infoMe
  refine _root_.Go.wpList_append_own (w := w) hg s x 67 hop base 77 i0 _ 11 184 Tryd.underlying67 hi0 hz0 hz1 hz2 rfl (by decide) v 0 [] hs hown ⟨gx, 0, none⟩ 1 1 (mecells B) hx rfl (fun j u hu => ?_) (fun u hu => ?_) (by unfold maxLen; omega) (by omega) hbase ?_
  · rw [Addr.add_lit, Nat.zero_add]; exact hi j u hu
  · simp [mecells] at hu
    rcases hu with rfl | rfl | rfl | rfl | rfl | rfl | rfl <;> rfl
  · intro v' w' h1 h2 _
    exact h v' w' (by simpa using h1) h2
set_option maxRecDepth 100000 in
set_option maxHeartbeats 8000000 in
theorem clone_me {b B : Nat} (w : World) (hb : w.heap[b]? = some (.cells (mecells B).toArray 77)) :
    Calls Tryd.prog 53 #[.slice (some ⟨b, 0, none⟩) 1 1] w fun e w' => ∃ g c, e = .returned (.slice (some ⟨g, 0, none⟩) 1 c) ∧ w'.ownsRow w.heap.size 77 11 (.slice (some ⟨g, 0, none⟩) 1 c) 1 (mecells B) ∧ Below w.heap.size w w' := by
  have HBM := Lib.hid hb
  clear hb
  have e1 := fun w => slnilMe ⟨b, 0, none⟩ 1 1 w
  have hown0 := own_lit0Me (w := w) (B := w.heap.size) (Nat.le_refl _)
  have hbz := below_al (Below.refl _ w) (.cells #[] 77)
  have hcs : ∀ j u, (mecells B)[j]? = some u → (w.alloc (.cells #[] 77)).cell? ⟨b, j, none⟩ = some u := by
    intro j u hu
    have h1 := laid_old (o' := .cells #[] 77) HBM.out
    simp [World.cell?, h1, hu]
  go_enter Tryd.func53, Tryd.ntmps53
  go_wp2_with (at_builtin; refine wpList_append_copyMe (by rfl) _ _ (by rfl) w.heap.size B _ (by rfl) hown0 (by rfl) hcs (by simp) ?_; intro v1 wE ho1 hg1; have hbE := grown_own hbz hown0 hg1)
  go_ret
  obtain ⟨g, c, hv, _, _⟩ := ho1.form (by decide)
  obtain rfl := hv
  exact ⟨g, c, rfl, ho1, hbE⟩
set_option maxRecDepth 100000 in
set_option maxHeartbeats 8000000 in
theorem at_bad (bM : Nat) (l : Value) (w : World) : Calls Tryd.prog 33 #[.agg #[.int .i64 0, .string ⟨#[]⟩, .string ⟨#[]⟩, .slice none 0 0, .slice none 0 0, .slice (some ⟨bM, 0, none⟩) 1 1, .string ⟨#[]⟩], .int .i64 1, l] w fun e w' => e = .returned (.tuple #[.agg #[.int .i64 0, .string ⟨#[]⟩, .string ⟨#[]⟩, .slice none 0 0, .slice none 0 0, .slice none 0 0, .string ⟨#[]⟩], .int .i64 1]) ∧ Below w.heap.size w w' := by
  go_enter Tryd.func33, Tryd.ntmps33
  go_wp2
  obtain ⟨H0, H1, hB⟩ := two_laidS w (.cells #[.int .i64 0, .string ⟨#[]⟩, .string ⟨#[]⟩, .slice none 0 0, .slice none 0 0, .slice (some ⟨bM, 0, none⟩) 1 1, .string ⟨#[]⟩] 69) (.cells #[.int .i64 0, .string ⟨#[]⟩, .string ⟨#[]⟩, .slice none 0 0, .slice none 0 0, .slice none 0 0, .string ⟨#[]⟩] 69)
  refine bodyPost_ret (cm_ret rfl rfl H1) rfl ⟨rfl, hB⟩
def AtRet (B : Nat) (w : World) (e : Ending) (w' : World) : Prop :=
  ∃ g cp A c, e = .returned (.tuple #[.agg #[.int .i64 0, .string ⟨#[]⟩, .string ⟨#[]⟩, .slice none 0 0, .slice none 0 0, .slice (some ⟨g, 0, none⟩) 1 cp, .string ⟨#[]⟩], .int .i64 0]) ∧ w'.cell? ⟨g, 8, none⟩ = some (.slice A 2 c) ∧ g < w'.heap.size ∧ SMs w' A [exM 3, exM 4] ∧ Below w.heap.size w w'
structure AtP (w : World) (B g c base : Nat) (A : Option Addr) (W : World) : Prop where
  ce : W.cell? ⟨g, 8, none⟩ = some (.slice A 2 c)
  sz : g < W.heap.size
  own : W.ownsRow base 51 4 (.slice A 2 c) 2 (smrow [exM 3, exM 4])
  bel : Below w.heap.size w W
theorem AtP.stp {w : World} {B g c base : Nat} {A : Option Addr} {W : World} (h : AtP w B g c base A W) (hb : B < base) (hg : g ≠ B) (hw : w.heap.size ≤ B) (o : Nat) (v : Value) : AtP w B g c base A (W.setCell ⟨B, o, none⟩ v) :=
  ⟨(World.cell?_of_block (a := ⟨g, 8, none⟩) (heap_setCell_other W ⟨B, o, none⟩ g v hg)).trans h.ce, by have := h.sz; simpa using this, ownsRow_setCell_below h.own (a := ⟨B, o, none⟩) hb v, below_st (p := ⟨B, o, none⟩) h.bel hw v⟩
theorem AtP.fin {w : World} {B g c base : Nat} {A : Option Addr} {W : World} (h : AtP w B g c base A W) : W.cell? ⟨g, 8, none⟩ = some (.slice A 2 c) ∧ g < W.heap.size ∧ SMs W A [exM 3, exM 4] ∧ Below w.heap.size w W :=
  ⟨h.ce, h.sz, (SMs.of_own h.own (exM_ok (by intro m hm; simp at hm; rcases hm with rfl | rfl <;> exact ⟨_, rfl⟩))).1, h.bel⟩
set_option maxRecDepth 100000 in
set_option maxHeartbeats 16000000 in
theorem at_ok (B bM bL : Nat) (w : World) (hM : w.heap[bM]? = some (.cells (mecells B).toArray 77)) (hL : SMs w (some ⟨bL, 0, none⟩) [exM 3, exM 4]) :
    Calls Tryd.prog 33 #[.agg #[.int .i64 0, .string ⟨#[]⟩, .string ⟨#[]⟩, .slice none 0 0, .slice none 0 0, .slice (some ⟨bM, 0, none⟩) 1 1, .string ⟨#[]⟩], .int .i64 0, .slice (some ⟨bL, 0, none⟩) 2 2] w (AtRet B w) := by
  obtain ⟨Q, hQ⟩ : ∃ Q, AtRet B w = Q := ⟨_, rfl⟩
  have HQ := Lib.hid hQ
  rw [hQ]
  clear hQ
  have HM := Lib.hid hM
  have HL := Lib.hid hL
  clear hM hL
  go_enter Tryd.func33, Tryd.ntmps33
  go_upto_region 1 with fail
  obtain ⟨H0, H1, hB⟩ := two_laidS w (.cells #[.int .i64 0, .string ⟨#[]⟩, .string ⟨#[]⟩, .slice none 0 0, .slice none 0 0, .slice (some ⟨bM, 0, none⟩) 1 1, .string ⟨#[]⟩] 69) (.cells #[.int .i64 0, .string ⟨#[]⟩, .string ⟨#[]⟩, .slice none 0 0, .slice none 0 0, .slice none 0 0, .string ⟨#[]⟩] 69)
  generalize (w.alloc (.cells #[.int .i64 0, .string ⟨#[]⟩, .string ⟨#[]⟩, .slice none 0 0, .slice none 0 0, .slice (some ⟨bM, 0, none⟩) 1 1, .string ⟨#[]⟩] 69)).alloc (.cells #[.int .i64 0, .string ⟨#[]⟩, .string ⟨#[]⟩, .slice none 0 0, .slice none 0 0, .slice none 0 0, .string ⟨#[]⟩] 69) = W at H0 H1 hB ⊢
  have HB := Lib.hid hB
  have HU := Lib.hid H0
  have HZ := Lib.hid H1
  have HMW := Lib.hid ((hB.block _ (lt_heap HM.out)).trans HM.out)
  obtain ⟨u0, u1, u2, u3, u4, u5, u6⟩ := seven_cells H0
  have m3 : W.cell? ⟨bM, 3, none⟩ = some (.bool true) := by simp [World.cell?, HMW.out, mecells]
  have m4 : W.cell? ⟨bM, 4, none⟩ = some (.int .i64 1) := by simp [World.cell?, HMW.out, mecells]
  have m5 : W.cell? ⟨bM, 5, none⟩ = some (.int .i64 0) := by simp [World.cell?, HMW.out, mecells]
  have m6 : W.cell? ⟨bM, 6, none⟩ = some (.slice (some ⟨B, 0, none⟩) 5 5) := by simp [World.cell?, HMW.out, mecells]
  have m7 : W.cell? ⟨bM, 7, none⟩ = some (.slice none 0 0) := by simp [World.cell?, HMW.out, mecells]
  have m8 : W.cell? ⟨bM, 8, none⟩ = some (.slice none 0 0) := by simp [World.cell?, HMW.out, mecells]
  have m9 : W.cell? ⟨bM, 9, none⟩ = some (.slice none 0 0) := by simp [World.cell?, HMW.out, mecells]
  have yu := lt_heap H0
  have ym := lt_heap HMW.out
  have KC0 := ck_any (n := 2) (cap := 2) (ms := [exM 3, exM 4]) (exSC B) W rfl (by omega) (HL.out.up hB)
  rw [ck34] at KC0
  have KC := Lib.hid (show Calls Tryd.prog 35 #[.agg #[.int .i64 1, .int .i64 0, .slice (some ⟨B, 0, none⟩) 5 5, .slice none 0 0, .slice none 0 0, .slice none 0 0], .slice (some ⟨bL, 0, none⟩) 2 2] W (fun e w' => e = .returned (.int .i64 0) ∧ Below W.heap.size W w') from KC0)
  clear KC0 H0 H1 hB
  go_upto_region 6 with (go_at_call 35; (with_reducible refine KC.out.mono ?_); rintro e w1 ⟨rfl, hb1⟩)
  have HB1 := Lib.hid (below_on HB.out hb1)
  have HU1 := Lib.hid ((hb1.block _ yu).trans HU.out)
  have HZ1 := Lib.hid ((hb1.block _ (lt_heap HZ.out)).trans HZ.out)
  have HM1 := Lib.hid ((hb1.block _ ym).trans HMW.out)
  clear u0 u1 u2 u3 u4 u5 u6 m3 m4 m5 m6 m7 m8 m9 yu ym KC hb1 HU HZ HMW
  obtain ⟨u0, u1, u2, u3, u4, u5, u6⟩ := seven_cells HU1.out
  have yu := lt_heap HU1.out
  go_upto_region 7 with (go_at_call 53; (with_reducible refine (clone_me _ HM1.out).mono ?_); rintro e w2 ⟨g, cp, rfl, ho2, hb2⟩; have hu2 := (hb2.block _ yu).trans HU1.out; have HU2 := Lib.hid hu2; obtain ⟨v0, v1, v2, v3, v4, v5, v6⟩ := seven_cells hu2; have yv := lt_heap hu2; have fv := frozenS hu2 5; clear hu2)
  have HO2 := Lib.hid ho2
  have h0 := heap_setCell_same w2 w.heap.size 5 _ _ (.slice (some ⟨g, 0, none⟩) 1 cp) HU2.out
  have HU5 := Lib.hid (show (w2.setCell ⟨w.heap.size, 5, none⟩ (.slice (some ⟨g, 0, none⟩) 1 cp)).heap[w.heap.size]? = some (.cells #[.int .i64 0, .string ⟨#[]⟩, .string ⟨#[]⟩, .slice none 0 0, .slice none 0 0, .slice (some ⟨g, 0, none⟩) 1 cp, .string ⟨#[]⟩] 69) from h0)
  have HZ5 := Lib.hid (show (w2.setCell ⟨w.heap.size, 5, none⟩ (.slice (some ⟨g, 0, none⟩) 1 cp)).heap[w.heap.size + 1]? = some (.cells #[.int .i64 0, .string ⟨#[]⟩, .string ⟨#[]⟩, .slice none 0 0, .slice none 0 0, .slice none 0 0, .string ⟨#[]⟩] 69) from (heap_setCell_other w2 ⟨w.heap.size, 5, none⟩ (w.heap.size + 1) _ (by show w.heap.size + 1 ≠ w.heap.size; omega)).trans ((hb2.block _ (lt_heap HZ1.out)).trans HZ1.out))
  have HB5 := Lib.hid (show Below w.heap.size w (w2.setCell ⟨w.heap.size, 5, none⟩ (.slice (some ⟨g, 0, none⟩) 1 cp)) from below_st (below_on HB1.out hb2) (Nat.le_refl _) _)
  have ho5 := ownsRow_setCell_below ho2 (a := ⟨w.heap.size, 5, none⟩) yu (.slice (some ⟨g, 0, none⟩) 1 cp)
  have hg1 : w1.heap.size ≤ g := (ho2.lt g rfl).1
  have hz1 := lt_heap HZ1.out
  have HGW := Lib.hid (show w.heap.size ≤ g by omega)
  clear h0 v0 v1 v2 v3 v4 v5 v6 yv fv u0 u1 u2 u3 u4 u5 u6 hb2 ho2 HZ1 HU1 HM1 HB1 HU2 HO2
  generalize w2.setCell ⟨w.heap.size, 5, none⟩ (.slice (some ⟨g, 0, none⟩) 1 cp) = W5 at HU5 HZ5 HB5 ho5 ⊢
  have cg5 : W5.cell? ⟨g, 8, none⟩ = some (.slice none 0 0) := ho5.cellAt 8 (by decide)
  have fg5 : W5.frozen? ⟨g, 8, none⟩ = false := ho5.frozenAt 8
  have hg5 : g < W5.heap.size := (ho5.lt g rfl).2
  have cu5 : W5.cell? ⟨w.heap.size, 5, none⟩ = some (.slice (some ⟨g, 0, none⟩) 1 cp) := (seven_cells HU5.out).2.2.2.2.2.1
  have yu5 := lt_heap HU5.out
  have hne : w.heap.size ≠ g := by omega
  have hne2 : w.heap.size + 1 ≠ g := by omega
  have HNE := Lib.hid hne
  have HNE2 := Lib.hid hne2
  have KCL := Lib.hid (fun (W' : World) (hW : Below W5.heap.size W5 W') => clone_sm (gx := bL) (ox := 0) (n := 2) (cap := 2) (L := [exM 3, exM 4]) W' rfl (by omega) (HL.out.up (below_on HB5.out hW)))
  clear ho5 hne hne2 hg1 hz1 yu w1
  try clear w2
  refine regN_start (N := 8) (S := (fun W' : World => W'.cell? ⟨w.heap.size, 5, none⟩ = some (.slice (some ⟨g, 0, none⟩) 1 cp) ∧ Below W5.heap.size W5 W')) (by kernel_rfl) ?_
  change wpAnyN _ _ _ _ _ _ _ #[false, false, false, false, false, false, false, false, false] _ (World.drew _)
  have hS0 := (show (fun W' : World => W'.cell? ⟨w.heap.size, 5, none⟩ = some (.slice (some ⟨g, 0, none⟩) 1 cp) ∧ Below W5.heap.size W5 W') W5.drew from ⟨cu5, (Below.refl _ _).drew⟩)
  refine regN_take (i := 0) (d := (some 44)) (v := ?v7x1) (l2 := #[true, false, false, false, false, false, false, false, false]) rfl rfl rfl (by kernel_rfl) (by kernel_rfl) (by kernel_rfl) (by kernel_rfl) (fun _ _ _ h => h) (by rfl) ?hv7x1 hS0 ?h7x1
  case hv7x1 => intro u hSu; clear hSu; go_simp; (try with_reducible rfl)
  (try simp only [Act.put, List.setIfInBounds_toArray, List.set_cons_zero, List.set_cons_succ])
  refine regN_take (i := 1) (d := (some 45)) (v := ?v7x2) (l2 := #[true, true, false, false, false, false, false, false, false]) rfl rfl rfl (by kernel_rfl) (by kernel_rfl) (by kernel_rfl) (by kernel_rfl) (fun _ _ _ h => h) (by rfl) ?hv7x2 hS0 ?h7x2
  case hv7x2 => intro u hSu; (try dsimp only at hSu); (try go_split_ands); go_simp; (try with_reducible rfl)
  (try simp only [Act.put, List.setIfInBounds_toArray, List.set_cons_zero, List.set_cons_succ])
  refine regN_take (i := 2) (d := (some 46)) (v := ?v7x3) (l2 := #[true, true, true, false, false, false, false, false, false]) rfl rfl rfl (by kernel_rfl) (by kernel_rfl) (by kernel_rfl) (by kernel_rfl) (fun _ _ _ h => h) (by rfl) ?hv7x3 hS0 ?h7x3
  case hv7x3 => intro u hSu; clear hSu; go_simp; (try with_reducible rfl)
  (try simp only [Act.put, List.setIfInBounds_toArray, List.set_cons_zero, List.set_cons_succ])
  refine regN_take (i := 3) (d := (some 47)) (v := ?v7x4) (l2 := #[true, true, true, true, false, false, false, false, false]) rfl rfl rfl (by kernel_rfl) (by kernel_rfl) (by kernel_rfl) (by kernel_rfl) (fun _ _ _ h => h) (by rfl) ?hv7x4 hS0 ?h7x4
  case hv7x4 => intro u hSu; clear hSu; go_simp; (try with_reducible rfl)
  (try simp only [Act.put, List.setIfInBounds_toArray, List.set_cons_zero, List.set_cons_succ])
  refine regN_ready (rs := [4]) (by kernel_rfl) (by simp) ?_
  refine (AllN.cons (i := 4) (l2 := #[true, true, true, true, true, false, false, false, false]) rfl rfl (fun K hK => ?_) AllN.nil)
  go_simp
  go_at_call 54
  (with_reducible refine (KCL.out _ (Below.refl _ _).drew).mono ?_)
  rintro e w10 ⟨v4, rfl, ho10, hb10⟩
  have hb11 := below_on (show Below W5.heap.size W5 _ from (Below.refl _ _).drew) hb10
  obtain ⟨A10, c10, rfl, _, _, _⟩ := own_form ho10
  have cg := (hb11.cell (p := ⟨g, 8, none⟩) hg5).trans cg5
  have fg := (hb11.frozen (p := ⟨g, 8, none⟩) hg5).trans fg5
  have yg := Nat.lt_of_lt_of_le hg5 hb11.size
  have HBN := Lib.hid hb11
  have HO10 := Lib.hid ho10
  clear hb10 hb11 ho10
  go_simp
  have hS1 : ((fun W' : World => W'.cell? ⟨w.heap.size, 5, none⟩ = some (.slice (some ⟨g, 0, none⟩) 1 cp) ∧ Below W5.heap.size W5 W') : World → Prop) _ := (show (fun W' : World => W'.cell? ⟨w.heap.size, 5, none⟩ = some (.slice (some ⟨g, 0, none⟩) 1 cp) ∧ Below W5.heap.size W5 W') _ from ⟨(HBN.out.cell (p := ⟨w.heap.size, 5, none⟩) yu5).trans cu5, HBN.out⟩)
  refine hK _ _ (fun _ => hS1) ?_
  clear hK K
  (try simp only [Act.put, List.setIfInBounds_toArray, List.set_cons_zero, List.set_cons_succ])
  refine regN_takeC [7, 6] (i := 5) (d := (some 49)) (v := ?v7x5) (l2 := #[true, true, true, true, true, true, false, false, false]) rfl rfl rfl (by kernel_rfl) (by kernel_rfl) (by kernel_rfl) (by kernel_rfl) (fun _ _ _ h => h) (by rfl) ?hv7x5 hS1 ?h7x5
  case hv7x5 => intro u hSu; clear hSu; go_simp; (try with_reducible rfl)
  (try simp only [Act.put, List.setIfInBounds_toArray, List.set_cons_zero, List.set_cons_succ])
  refine regN_takeC [7] (i := 6) (d := (some 50)) (v := ?v7x6) (l2 := #[true, true, true, true, true, true, true, false, false]) rfl rfl rfl (by kernel_rfl) (by kernel_rfl) (by kernel_rfl) (by kernel_rfl) (fun _ _ _ h => h) (by rfl) ?hv7x6 hS1 ?h7x6
  case hv7x6 => intro u hSu; clear hSu; go_simp; (try with_reducible rfl)
  (try simp only [Act.put, List.setIfInBounds_toArray, List.set_cons_zero, List.set_cons_succ])
  refine regN_take (i := 7) (d := (some 51)) (v := ?v7x7) (l2 := #[true, true, true, true, true, true, true, true, false]) rfl rfl rfl (by kernel_rfl) (by kernel_rfl) (by kernel_rfl) (by kernel_rfl) (fun _ _ _ h => h) (by rfl) ?hv7x7 hS1 ?h7x7
  case hv7x7 => intro u hSu; clear hSu; go_simp; (try with_reducible rfl)
  (try simp only [Act.put, List.setIfInBounds_toArray, List.set_cons_zero, List.set_cons_succ])
  refine regN_ready (rs := [8]) (by kernel_rfl) (by simp) ?_
  refine (AllN.cons (i := 8) (l2 := #[true, true, true, true, true, true, true, true, true]) rfl rfl (fun K hK => ?_) AllN.nil)
  go_simp
  refine hK _ _ (fun h => absurd rfl h) ?_
  clear hK K
  (try simp only [Act.put, List.setIfInBounds_toArray, List.set_cons_zero, List.set_cons_succ])
  refine regN_done (by kernel_rfl) ?_ _
  have HU6 := Lib.hid ((heap_setCell_other w10 ⟨g, 8, none⟩ w.heap.size (.slice A10 2 c10) HNE.out).trans ((HBN.out.block _ yu5).trans HU5.out))
  have HZ6 := Lib.hid ((heap_setCell_other w10 ⟨g, 8, none⟩ (w.heap.size + 1) (.slice A10 2 c10) HNE2.out).trans ((HBN.out.block _ (lt_heap HZ5.out)).trans HZ5.out))
  have ho6 := ownsRow_setCell_below HO10.out (a := ⟨g, 8, none⟩) (show g < W5.drew.heap.size by simpa using hg5) (.slice A10 2 c10)
  have HB6 := Lib.hid (show Below w.heap.size w (w10.setCell ⟨g, 8, none⟩ (.slice A10 2 c10)) from below_st (below_on HB5.out HBN.out) (by have := HNE.out; have := HNE2.out; have h9 := HGW.out; omega) _)
  have hc6 : (w10.setCell ⟨g, 8, none⟩ (.slice A10 2 c10)).cell? ⟨g, 8, none⟩ = some (.slice A10 2 c10) := World.cell?_setCell_same _ _ _ cg
  have HO6 := Lib.hid ho6
  have HC6 := Lib.hid hc6
  have hgs := Lib.hid (show g < (w10.setCell ⟨g, 8, none⟩ (.slice A10 2 c10)).heap.size by simpa using yg)
  have hz5 := lt_heap HZ5.out
  have HZ5L := Lib.hid hz5
  clear ho6 hc6 cg fg yg cg5 fg5 cu5 hz5
  generalize w10.setCell ⟨g, 8, none⟩ (.slice A10 2 c10) = W6 at HU6 HZ6 HB6 HO6 HC6 hgs ⊢
  obtain ⟨u0, u1, u2, u3, u4, u5, u6⟩ := seven_cells HU6.out
  obtain ⟨z0, z1, z2, z3, z4, z5, z6⟩ := seven_cells HZ6.out
  have yu6 := lt_heap HU6.out
  have yz6 := lt_heap HZ6.out
  have fz0 := frozenS HZ6.out 0
  have fz1 := frozenS HZ6.out 1
  have fz2 := frozenS HZ6.out 2
  have fz3 := frozenS HZ6.out 3
  have fz4 := frozenS HZ6.out 4
  have fz5 := frozenS HZ6.out 5
  have fz6 := frozenS HZ6.out 6
  go_wp2
  refine bodyPost_ret (cm_ret rfl rfl (set_seven HZ6.out)) rfl ?_
  rw [← HQ.out]
  have HP6 := Lib.hid (show AtP w (w.heap.size + 1) g c10 W5.drew.heap.size A10 W6 from ⟨HC6.out, hgs.out, HO6.out, HB6.out⟩)
  have hl1 : w.heap.size + 1 < W5.drew.heap.size := by simpa using HZ5L.out
  have hl2 : g ≠ w.heap.size + 1 := fun e => HNE2.out e.symm
  refine ⟨g, cp, A10, c10, rfl, AtP.fin (B := w.heap.size + 1) (base := W5.drew.heap.size) ?_⟩
  refine AtP.stp ?_ hl1 hl2 (Nat.le_succ _) 6 _
  refine AtP.stp ?_ hl1 hl2 (Nat.le_succ _) 5 _
  refine AtP.stp ?_ hl1 hl2 (Nat.le_succ _) 4 _
  refine AtP.stp ?_ hl1 hl2 (Nat.le_succ _) 3 _
  refine AtP.stp ?_ hl1 hl2 (Nat.le_succ _) 2 _
  refine AtP.stp ?_ hl1 hl2 (Nat.le_succ _) 1 _
  refine AtP.stp ?_ hl1 hl2 (Nat.le_succ _) 0 _
  exact HP6.out

end Go.Proofs.YtdppooflbjlbcaaDoor.I

/- Wk -/
/- Layer 22: the chapter's example. (Written by gen/wk.py.) -/
namespace Go.Proofs.YtdppooflbjlbcaaDoor.I
open Go.ChangeShapes Go.WideShapes Go.ChangeAt Go.RowKit Go.PlainAid
set_option linter.unusedSimpArgs false
set_option linter.unusedVariables false

theorem rq_ex {B : Nat} {W : World} (h : W.heap[B]? = some (.cells (irow exS).toArray 43)) : Calls Tryd.prog 27 #[.agg #[.int .i64 1, .int .i64 0, .slice (some ⟨B, 0, none⟩) 5 5, .slice none 0 0, .slice none 0 0, .slice none 0 0]] W (IntsOwn W [3, 4]) := by
  have := rq_any (exSC B) W (exS_k22 h)
  rw [exS_rq] at this
  exact this
theorem ck_ex5 {B bL : Nat} {W : World} (h : SMs W (some ⟨bL, 0, none⟩) [exM 5]) : Calls Tryd.prog 35 #[.agg #[.int .i64 1, .int .i64 0, .slice (some ⟨B, 0, none⟩) 5 5, .slice none 0 0, .slice none 0 0, .slice none 0 0], .slice (some ⟨bL, 0, none⟩) 1 1] W fun e w' => e = .returned (.int .i64 25) ∧ Below W.heap.size W w' := by
  have := ck_any (n := 1) (cap := 1) (ms := [exM 5]) (exSC B) W rfl (by omega) h
  rw [ck5] at this
  exact this
theorem sl_ex {B bL : Nat} {W : World} (h : W.heap[B]? = some (.cells (irow exS).toArray 43)) (hs : SMs W (some ⟨bL, 0, none⟩) [exM 2, exM 3]) : Calls Tryd.prog 30 #[.agg #[.int .i64 1, .int .i64 0, .slice (some ⟨B, 0, none⟩) 5 5, .slice none 0 0, .slice none 0 0, .slice none 0 0], .slice (some ⟨bL, 0, none⟩) 2 2] W (SmOwn W [exM 3]) := by
  have := sl_any (n := 2) (cap := 2) (ms := [exM 2, exM 3]) (exSC B) W (exS_k22 h) rfl (by omega) hs
  rw [sl23] at this
  exact this
theorem fa_ex4 {bL : Nat} {W : World} (h : SMs W (some ⟨bL, 0, none⟩) [exM 3, exM 4]) : Calls Tryd.prog 24 #[.slice (some ⟨bL, 0, none⟩) 2 2, .int .i64 4] W fun e w' => e = .returned (.tuple #[.agg #[.slice none 0 0, .slice none 0 0, .bool false], .bool true]) ∧ Below W.heap.size W w' := by
  have := fa_any (n := 2) (cap := 2) (ms := [exM 3, exM 4]) 4 W rfl (by omega) h
  rw [show faF [exM 3, exM 4] 4 = fmZ by kernel_rfl, show faB [exM 3, exM 4] 4 = true by kernel_rfl] at this
  exact this
theorem fa_ex2 {bL : Nat} {W : World} (h : SMs W (some ⟨bL, 0, none⟩) [exM 3, exM 4]) : Calls Tryd.prog 24 #[.slice (some ⟨bL, 0, none⟩) 2 2, .int .i64 2] W fun e w' => e = .returned (.tuple #[.agg #[.slice none 0 0, .slice none 0 0, .bool false], .bool false]) ∧ Below W.heap.size W w' := by
  have := fa_any (n := 2) (cap := 2) (ms := [exM 3, exM 4]) 2 W rfl (by omega) h
  rw [show faF [exM 3, exM 4] 2 = fmZ by kernel_rfl, show faB [exM 3, exM 4] 2 = false by kernel_rfl] at this
  exact this
theorem row_lit22 {W : World} {B : Nat} {L : List Int} (h : W.heap[B]? = some (.cells (Ri L).toArray 3)) : Row W W.heap.size (some ⟨B, 0, none⟩) L := by
  refine Or.inr ⟨B, 0, rfl, lt_heap h, fun j x hx => ?_⟩
  rw [Nat.zero_add]
  simp only [World.cell?, h]
  unfold Ri
  simp [hx]
theorem exM_two (a b : Int) : ∀ m ∈ [exM a, exM b], ∃ x, m = exM x := by
  intro m hm
  simp only [List.mem_cons, List.not_mem_nil, or_false] at hm
  rcases hm with rfl | rfl <;> exact ⟨_, rfl⟩
theorem exM_one (a : Int) : ∀ m ∈ [exM a], ∃ x, m = exM x := by
  intro m hm
  obtain rfl := List.mem_singleton.1 hm
  exact ⟨_, rfl⟩
/-- what the example has laid -/
structure AwF (bM bU bL bV g cp c : Nat) (A AR : Option Addr) (W : World) : Prop where
  u : W.heap[bU]? = some (.cells #[.int .i64 0, .string ⟨#[]⟩, .string ⟨#[]⟩, .slice none 0 0, .slice none 0 0, .slice (some ⟨bM, 0, none⟩) 1 1, .string ⟨#[]⟩] 69)
  v : W.heap[bV]? = some (.cells #[.int .i64 0, .string ⟨#[]⟩, .string ⟨#[]⟩, .slice none 0 0, .slice none 0 0, .slice (some ⟨g, 0, none⟩) 1 cp, .string ⟨#[]⟩] 69)
  c8 : W.cell? ⟨g, 8, none⟩ = some (.slice A 2 c)
  gl : g < W.heap.size
  r : Row W W.heap.size AR [3, 4]
  m : SMs W (some ⟨bL, 0, none⟩) [exM 3, exM 4]
  s : SMs W A [exM 3, exM 4]
theorem AwF.up {bM bU bL bV g cp c : Nat} {A AR : Option Addr} {W W' : World} (h : AwF bM bU bL bV g cp c A AR W) (hb : Below W.heap.size W W') : AwF bM bU bL bV g cp c A AR W' :=
  ⟨(hb.block _ (lt_heap h.u)).trans h.u, (hb.block _ (lt_heap h.v)).trans h.v, (hb.cell (p := ⟨g, 8, none⟩) h.gl).trans h.c8, Nat.lt_of_lt_of_le h.gl hb.size, h.r.up hb, h.m.up hb, h.s.up hb⟩
set_option maxRecDepth 100000 in
set_option maxHeartbeats 16000000 in
theorem awake22_any (w : World) : Calls Tryd.prog 23 #[] w fun e w' => e = .returned (.bool true) ∧ Below w.heap.size w w' := by
  go_enter Tryd.func23, Tryd.ntmps23
  go_upto_region 2 with (first | (go_at_call 47; (with_reducible refine (sample_any _).mono ?_); rintro e w1 ⟨B0, rfl, _, hs0, hb1⟩) | (go_at_call 27; (with_reducible refine (rq_ex hs0).mono ?_); rintro e w2 ⟨v, rfl, ho2, hb2⟩))
  have HB2 := Lib.hid (below_on hb1 hb2)
  obtain ⟨AR, cR, rfl, _, _, _⟩ := own_form ho2
  have HR2 := Lib.hid (Row.of_own ho2).1
  rw [show ([3, 4] : List Int).length = 2 from rfl]
  clear hs0 hb1 hb2 ho2
  go_upto_region 3 with (go_at_call 47; (with_reducible refine (sample_any _).mono ?_); rintro e w3 ⟨B, rfl, _, hs3, hb3⟩)
  have HB3 := Lib.hid (below_on HB2.out hb3)
  have HR3 := Lib.hid (HR2.out.up hb3)
  obtain ⟨H0, H1, hB⟩ := two_laidS w3 (.cells #[.int .i64 0, .string ⟨#[]⟩, .string ⟨#[]⟩, .bool true, .int .i64 1, .int .i64 0, .slice (some ⟨B, 0, none⟩) 5 5, .slice none 0 0, .slice none 0 0, .slice none 0 0, .slice none 0 0] 77) (.cells #[.int .i64 0, .string ⟨#[]⟩, .string ⟨#[]⟩, .slice none 0 0, .slice none 0 0, .slice (some ⟨w3.heap.size, 0, none⟩) 1 1, .string ⟨#[]⟩] 69)
  have HB4 := Lib.hid (below_on HB3.out hB)
  have HR4 := Lib.hid (HR3.out.up hB)
  generalize hbm : w3.heap.size = bM at H0 H1 HB4 HR4 ⊢
  generalize (w3.alloc (.cells #[.int .i64 0, .string ⟨#[]⟩, .string ⟨#[]⟩, .bool true, .int .i64 1, .int .i64 0, .slice (some ⟨B, 0, none⟩) 5 5, .slice none 0 0, .slice none 0 0, .slice none 0 0, .slice none 0 0] 77)).alloc (.cells #[.int .i64 0, .string ⟨#[]⟩, .string ⟨#[]⟩, .slice none 0 0, .slice none 0 0, .slice (some ⟨bM, 0, none⟩) 1 1, .string ⟨#[]⟩] 69) = W4 at H0 H1 HB4 HR4 ⊢
  have HM4 := Lib.hid H0
  have HU4 := Lib.hid H1
  clear hs3 hb3 H0 H1 hB HB3 HR3 HB2 HR2 hbm
  go_upto_region 4 with fail
  have H0 := World.alloc_heap_new W4 (.cells #[.int .i64 3, .slice none 0 0, .slice none 0 0, .bool false, .int .i64 4, .slice none 0 0, .slice none 0 0, .bool false] 51)
  have hb5 := below_al (Below.refl _ W4) (.cells #[.int .i64 3, .slice none 0 0, .slice none 0 0, .bool false, .int .i64 4, .slice none 0 0, .slice none 0 0, .bool false] 51)
  have HB5 := Lib.hid (below_on HB4.out hb5)
  have HR5 := Lib.hid (HR4.out.up hb5)
  have HM5 := Lib.hid ((hb5.block _ (lt_heap HM4.out)).trans HM4.out)
  have HU5 := Lib.hid ((hb5.block _ (lt_heap HU4.out)).trans HU4.out)
  generalize hbl : W4.heap.size = bL at H0 ⊢
  generalize W4.alloc (.cells #[.int .i64 3, .slice none 0 0, .slice none 0 0, .bool false, .int .i64 4, .slice none 0 0, .slice none 0 0, .bool false] 51) = W5 at H0 HB5 HR5 HM5 HU5 ⊢
  have HS5 := Lib.hid (sms_new (L := [exM 3, exM 4]) H0 (exM_ok (exM_two 3 4)))
  clear H0 hb5 hbl HB4 HR4 HM4 HU4
  obtain ⟨u0, u1, u2, u3, u4, u5, u6⟩ := seven_cells HU5.out
  have yu := lt_heap HU5.out
  go_upto_region 5 with (go_at_call 33; (with_reducible refine (at_ok B bM bL _ HM5.out HS5.out).mono ?_); rintro e w6 ⟨g, cp, A, c, rfl, hcg, hg, hsm, hb6⟩)
  have hbv := below_al (Below.refl _ w6) (.cells #[.int .i64 0, .string ⟨#[]⟩, .string ⟨#[]⟩, .slice none 0 0, .slice none 0 0, .slice (some ⟨g, 0, none⟩) 1 cp, .string ⟨#[]⟩] 69)
  have F7 := Lib.hid (show AwF bM (bM + 1) bL w6.heap.size g cp c A AR (w6.alloc (.cells #[.int .i64 0, .string ⟨#[]⟩, .string ⟨#[]⟩, .slice none 0 0, .slice none 0 0, .slice (some ⟨g, 0, none⟩) 1 cp, .string ⟨#[]⟩] 69)) from
    ⟨(hbv.block _ (Nat.lt_of_lt_of_le yu hb6.size)).trans ((hb6.block _ yu).trans HU5.out), World.alloc_heap_new _ _, (hbv.cell (p := ⟨g, 8, none⟩) hg).trans hcg, Nat.lt_of_lt_of_le hg hbv.size, (HR5.out.up hb6).up hbv, (HS5.out.up hb6).up hbv, hsm.up hbv⟩)
  have HB7 := Lib.hid (below_on (below_on HB5.out hb6) hbv)
  clear hcg hg hsm hb6 hbv u0 u1 u2 u3 u4 u5 u6 yu HU5 HM5 HS5 HR5 HB5
  generalize hbV : w6.heap.size = bV at F7 ⊢
  generalize w6.alloc (.cells #[.int .i64 0, .string ⟨#[]⟩, .string ⟨#[]⟩, .slice none 0 0, .slice none 0 0, .slice (some ⟨g, 0, none⟩) 1 cp, .string ⟨#[]⟩] 69) = W7 at F7 HB7 ⊢
  clear hbV
  obtain ⟨u0, u1, u2, u3, u4, u5, u6⟩ := seven_cells F7.out.u
  have yu := lt_heap F7.out.u
  go_upto_region 6 with (go_at_call 33; (with_reducible refine (at_bad bM _ _).mono ?_); rintro e w8 ⟨rfl, hb8⟩)
  have hb9 := below_al hb8 (.cells #[.int .i64 0, .string ⟨#[]⟩, .string ⟨#[]⟩, .slice none 0 0, .slice none 0 0, .slice none 0 0, .string ⟨#[]⟩] 69)
  have F9 := Lib.hid (F7.out.up hb9)
  have HB9 := Lib.hid (below_on HB7.out hb9)
  clear u0 u1 u2 u3 u4 u5 u6 yu F7 HB7 hb8 hb9
  generalize w8.alloc (.cells #[.int .i64 0, .string ⟨#[]⟩, .string ⟨#[]⟩, .slice none 0 0, .slice none 0 0, .slice none 0 0, .string ⟨#[]⟩] 69) = W9 at F9 HB9 ⊢
  go_upto_region 7 with (go_at_call 24; (with_reducible refine (fa_ex4 F9.out.m).mono ?_); rintro e w10 ⟨rfl, hb10⟩)
  have hb11 := below_al hb10 (.cells #[.slice none 0 0, .slice none 0 0, .bool false] 49)
  have F11 := Lib.hid (F9.out.up hb11)
  have HB11 := Lib.hid (below_on HB9.out hb11)
  clear F9 HB9 hb10 hb11
  generalize w10.alloc (.cells #[.slice none 0 0, .slice none 0 0, .bool false] 49) = W11 at F11 HB11 ⊢
  go_upto_region 8 with (go_at_call 24; (with_reducible refine (fa_ex2 F11.out.m).mono ?_); rintro e w12 ⟨rfl, hb12⟩)
  have hb13 := below_al hb12 (.cells #[.slice none 0 0, .slice none 0 0, .bool false] 49)
  have F13 := Lib.hid (F11.out.up hb13)
  have HB13 := Lib.hid (below_on HB11.out hb13)
  clear F11 HB11 hb12 hb13
  generalize w12.alloc (.cells #[.slice none 0 0, .slice none 0 0, .bool false] 49) = W13 at F13 HB13 ⊢
  have hbi := below_al (Below.refl _ W13) (.cells #[.int .i64 3, .int .i64 4] 3)
  go_wp2_with (first
    | (go_at_call 26; (with_reducible refine (ints_yes (n := 2) (L := [3, 4]) _ rfl (by omega) (F13.out.r.up hbi) (row_lit22 (L := [3, 4]) (World.alloc_heap_new W13 _))).mono ?_); rintro e w14 ⟨rfl, hb14⟩; have hb15 := below_on hbi hb14; have F14 := Lib.hid (F13.out.up hb15); have HB14 := Lib.hid (below_on HB13.out hb15); clear hb14 hb15 hbi; obtain ⟨v0, v1, v2, v3, v4, v5, v6⟩ := seven_cells F14.out.v; have yv := lt_heap F14.out.v; have cg := F14.out.c8; have yg := F14.out.gl)
    | (go_at_call 29; (with_reducible refine (maps_yes (n := 2) (L := [exM 3, exM 4]) _ rfl (by omega) F14.out.s F14.out.m).mono ?_); rintro e w15 ⟨rfl, hb15⟩; have HB15 := Lib.hid (below_on HB14.out hb15); clear v0 v1 v2 v3 v4 v5 v6 yv cg yg hb15)
    | (go_at_call 35; have hs5 : SMs (w16.alloc (.cells #[.int .i64 5, .slice none 0 0, .slice none 0 0, .bool false] 51)) (some ⟨w16.heap.size, 0, none⟩) [exM 5] := sms_new (L := [exM 5]) (World.alloc_heap_new w16 (.cells #[.int .i64 5, .slice none 0 0, .slice none 0 0, .bool false] 51)) (exM_ok (exM_one 5)); (with_reducible refine (ck_ex5 hs5).mono ?_); clear hs5; rintro e w17 ⟨rfl, hb17⟩; have HB17 := Lib.hid (below_on HB16.out (below_on (below_al (Below.refl _ w16) (.cells #[.int .i64 5, .slice none 0 0, .slice none 0 0, .bool false] 51)) hb17)); clear hb17)
    | (go_at_call 30; have hs6 : SMs (w18.alloc (.cells #[.int .i64 2, .slice none 0 0, .slice none 0 0, .bool false, .int .i64 3, .slice none 0 0, .slice none 0 0, .bool false] 51)) (some ⟨w18.heap.size, 0, none⟩) [exM 2, exM 3] := sms_new (L := [exM 2, exM 3]) (World.alloc_heap_new w18 (.cells #[.int .i64 2, .slice none 0 0, .slice none 0 0, .bool false, .int .i64 3, .slice none 0 0, .slice none 0 0, .bool false] 51)) (exM_ok (exM_two 2 3)); have hs7 := laid_old (o' := (.cells #[.int .i64 2, .slice none 0 0, .slice none 0 0, .bool false, .int .i64 3, .slice none 0 0, .slice none 0 0, .bool false] 51)) hs18; (with_reducible refine (sl_ex hs7 hs6).mono ?_); clear hs6 hs7; rintro e w19 ⟨vs, rfl, ho19, hb19⟩; have HB19 := Lib.hid (below_on HB18.out (below_on (below_al (Below.refl _ w18) (.cells #[.int .i64 2, .slice none 0 0, .slice none 0 0, .bool false, .int .i64 3, .slice none 0 0, .slice none 0 0, .bool false] 51)) hb19)); obtain ⟨AS, cS, rfl, _, _, _⟩ := own_form ho19; clear hb19 ho19)
    | (go_at_call 47; (with_reducible refine (sample_any w17).mono ?_); rintro e w18 ⟨B18, rfl, _, hs18, hb18⟩; have HB18 := Lib.hid (below_on HB17.out hb18); clear hb18)
    | (go_at_call 47; (with_reducible refine (sample_any w15).mono ?_); rintro e w16 ⟨B16, rfl, _, _, hb16⟩; have HB16 := Lib.hid (below_on HB15.out hb16); clear hb16))
  go_ret
  exact ⟨rfl, HB19.out⟩

end Go.Proofs.YtdppooflbjlbcaaDoor.I
