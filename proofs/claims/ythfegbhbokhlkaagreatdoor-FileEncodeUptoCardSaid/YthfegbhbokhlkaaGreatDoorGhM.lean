import Derived.Test.YthfegbhbokhlkaaGreatDoorGaM
import Derived.Test.YthfegbhbokhlkaaGreatDoorPcM
import Derived.RegionTactic
import Derived.ChangeAlike
import Derived.BigRegion
import Derived.Deep.RegionWith

/- Gh -/
/- Layer 11: a strings.Builder as the only field of a struct (the package's writer): WriteString, Len, String. -/
namespace Go.Proofs.YthfegbhbokhlkaaGreatDoor
open Go.ChangeShapes Go.WideShapes Go.ChangeAt Go.RowKit Go.PlainAid
set_option linter.unusedSimpArgs false
set_option linter.unusedVariables false

theorem bliesW : liesAt Tryz.prog Tryz.prog.depth 46 (2 / Tryz.prog.cellsOf 46) 0 44 1 = true := by kernel_rfl
set_option maxHeartbeats 1000000 in
set_option maxRecDepth 100000 in
theorem check_freshW (b : Nat) (w : World) (h0 : w.cell? ⟨b, 0, none⟩ = some (.pointer none)) (hsh : w.shape? b = some (46, 2)) (hfz : w.frozen? ⟨b, 0, none⟩ = false) :
    Calls Tryz.prog 47 #[.pointer (some ⟨b, 0, none⟩)] w fun e w' => e = .returned (.tuple #[]) ∧ w' = w.setCell ⟨b, 0, none⟩ (.pointer (some ⟨b, 0, none⟩)) := by
  obtain ⟨j, hj, hjs⟩ := Option.map_eq_some_iff.1 bsize
  have hto := Lib.run_to_unsafe (P := Tryz.prog) w ⟨b, 0, none⟩ Tryz.underlying41 Tryz.underlying102 hj (by rw [hjs]; decide) hsh (Nat.zero_lt_succ 1)
  have hfrom := Lib.run_from_unsafe (P := Tryz.prog) w ⟨b, 0, none⟩ Tryz.underlying102 Tryz.underlying41 hj hsh bliesW
  go_enter Tryz.func47, Tryz.ntmps47
  go_wp2
  rw [run_callFunc_extern Tryz.func59 (by kernel_rfl) (by kernel_rfl) (by kernel_rfl) (e := Extern.AbiNoEscape.same) (by kernel_rfl), Lib.run_noEscape]
  simp only [Result.andThen]
  rw [Oper.upon_value]
  go_wp2
  go_end0
  exact ⟨rfl, rfl⟩

theorem bcheckW (B b : Nat) (bs : List Value) (w : World) (h : Lib.IsBuilder 46 5 B b bs w) :
    Calls Tryz.prog 47 #[.pointer (some ⟨b, 0, none⟩)] w fun e w' => e = .returned (.tuple #[]) ∧ Lib.BuilderAt 46 5 B b (.pointer (some ⟨b, 0, none⟩)) bs w' ∧ Below B w w' := by
  rcases h with h | h
  · exact (check_freshW b w h.cell0 h.shape h.frozen0).mono fun e w' hh => by
      obtain ⟨rfl, rfl⟩ := hh
      exact ⟨rfl, h.used _, (Below.refl B w).setCell (p := ⟨b, 0, none⟩) h.1 _⟩
  · exact (check_used b w h.cell0).mono fun e w' hh => by
      obtain ⟨rfl, rfl⟩ := hh
      exact ⟨rfl, h, Below.refl B _⟩

theorem built_partsW {B b : Nat} {bs : List Value} {w : World} (h : Lib.BuilderAt 46 5 B b (.pointer (some ⟨b, 0, none⟩)) bs w) :
    B ≤ b ∧ ∃ v, w.heap[b]? = some (.cells #[.pointer (some ⟨b, 0, none⟩), v] 46 (0, 0)) ∧ w.ownsRow B 5 1 v bs.length bs ∧ v.ownBlock ≠ some b ∧ w.cell? ⟨b, 0, none⟩ = some (.pointer (some ⟨b, 0, none⟩)) ∧ w.cell? ⟨b, 1, none⟩ = some v ∧ b < w.heap.size := by
  obtain ⟨hB, v, hbk, hown, hne⟩ := h
  refine ⟨hB, v, hbk, hown, hne, ?_, ?_, ?_⟩
  · rw [Lib.cell_of_heap hbk]; rfl
  · rw [Lib.cell_of_heap hbk]; rfl
  · rcases Nat.lt_or_ge b w.heap.size with h' | h'
    · exact h'
    · rw [Array.getElem?_eq_none h'] at hbk; cases hbk

set_option maxHeartbeats 1000000 in
set_option maxRecDepth 100000 in
theorem wstrW (B b : Nat) (bs : List Value) (s : ByteArray) (w : World) (h : Lib.IsBuilder 46 5 B b bs w) (hlen : bs.length + s.size ≤ 140737488355328) (hBw : B ≤ w.heap.size) :
    Calls Tryz.prog 16 #[.pointer (some ⟨b, 0, none⟩), .string s] w fun e w' => e = .returned (.tuple #[.int .i64 s.size, .nilIface]) ∧ Lib.BuilderAt 46 5 B b (.pointer (some ⟨b, 0, none⟩)) (bs ++ Lib.strCells s) w' ∧ Below B w w' := by
  obtain ⟨i0, hi, hz0, hz1, hz2⟩ := info_parts ibyte
  go_enter Tryz.func16, Tryz.ntmps16
  go_wp2_with (first | (go_at_call 47; refine (bcheckW B b bs _ h).mono ?_; rintro e w1 ⟨rfl, h1, hb1⟩; obtain ⟨hB, v, hbk, hown, hne, d0, d1, hlt⟩ := built_partsW h1; have hs1 := hb1.size; have HBK := Lib.hid hbk; clear hbk) | (at_builtin; refine Lib.wpList_append_own_string _ rfl _ _ 42 9 rfl B 5 i0 Tryz.underlying42 Tryz.underlying9 hi hz0 hz1 hz2 v bs.length bs rfl hown s rfl ?c3 ?c4 ?c5 ?_))
  case c3 => unfold maxLen; omega
  case c4 => omega
  case c5 => omega
  intro v' w2 hown2 hgrow _
  have k2 : w2.heap[b]? = some (.cells #[.pointer (some ⟨b, 0, none⟩), v] 46 (0, 0)) := by
    rw [hgrow.block b hlt (fun e => hne e.symm)]
    exact HBK.out
  have e0 : w2.cell? ⟨b, 0, none⟩ = some (.pointer (some ⟨b, 0, none⟩)) := by rw [Lib.cell_of_heap k2]; rfl
  have e1 : w2.cell? ⟨b, 1, none⟩ = some v := by rw [Lib.cell_of_heap k2]; rfl
  have f1 : w2.frozen? ⟨b, 1, none⟩ = false := Lib.frozen_of_heap k2 1
  obtain ⟨ao, n', cap, rfl⟩ : ∃ ao n' cap, v' = .slice ao n' cap := by
    rcases hown2.2 with ⟨hv, _⟩ | ⟨g, cap, cur, hv, _⟩
    · exact ⟨_, _, _, hv⟩
    · exact ⟨_, _, _, hv⟩
  have K2 := Lib.hid k2
  have hr : ∀ k, v.ownBlock = some k → B ≤ k := fun k hk => (hown.lt k hk).1
  have HB := Lib.hid ((hb1.grown hgrow (by omega) hr).setCell (p := ⟨b, 1, none⟩) hB (.slice ao n' cap))
  have HO := Lib.hid hown2
  clear k2 hgrow hown2 hr
  go_wp2
  go_ret2
  exact ⟨rfl, Lib.BuilderAt.put (T := 46) (e := 5) hB K2.out (bs' := bs ++ Lib.strCells s) (by simpa [Lib.strCells_length] using HO.out) (by decide), HB.out⟩

theorem built_keepW {B b : Nat} {p : Value} {bs : List Value} {w w' : World} (h : Lib.BuilderAt 46 5 B b p bs w) (hb : Below w.heap.size w w') : Lib.BuilderAt 46 5 B b p bs w' := by
  have hlt := h.lt
  obtain ⟨h1, v, h2, h3, h4⟩ := h
  exact ⟨h1, v, (hb.block b hlt).trans h2, owns_below h3 hb, h4⟩
theorem isb_keepW {B b : Nat} {bs : List Value} {w w' : World} (h : Lib.IsBuilder 46 5 B b bs w) (hb : Below w.heap.size w w') : Lib.IsBuilder 46 5 B b bs w' := h.imp (fun h => built_keepW h hb) (fun h => built_keepW h hb)

set_option maxRecDepth 100000 in
set_option maxHeartbeats 1000000 in
theorem wstrKW (B b : Nat) (bs : List Value) (s : ByteArray) (w : World) (h : Lib.BuilderAt 46 5 B b (.pointer (some ⟨b, 0, none⟩)) bs w) (hlen : bs.length + s.size ≤ 140737488355328) (hBw : B ≤ w.heap.size) :
    Calls Tryz.prog 16 #[.pointer (some ⟨b, 0, none⟩), .string s] w fun e w' => e = .returned (.tuple #[.int .i64 s.size, .nilIface]) ∧ Lib.BuilderAt 46 5 B b (.pointer (some ⟨b, 0, none⟩)) (bs ++ Lib.strCells s) w' ∧ Below B w w' ∧ Apart b w w' := by
  obtain ⟨i0, hi, hz0, hz1, hz2⟩ := info_parts ibyte
  obtain ⟨hB, v, hbk, hown, hne, d0, d1, hlt⟩ := built_partsW h
  have HBK := Lib.hid hbk
  clear hbk
  go_enter Tryz.func16, Tryz.ntmps16
  go_wp2_with (first | (go_at_call 47; refine (check_used b _ h.cell0).mono ?_; rintro e w1 ⟨rfl, rfl⟩) | (at_builtin; refine Lib.wpList_append_own_string _ rfl _ _ 42 9 rfl B 5 i0 Tryz.underlying42 Tryz.underlying9 hi hz0 hz1 hz2 v bs.length bs rfl hown s rfl ?c3 ?c4 ?c5 ?_))
  case c3 => unfold maxLen; omega
  case c4 => omega
  case c5 => omega
  intro v' w2 hown2 hgrow _
  have k2 : w2.heap[b]? = some (.cells #[.pointer (some ⟨b, 0, none⟩), v] 46 (0, 0)) := by
    rw [hgrow.block b hlt (fun e => hne e.symm)]
    exact HBK.out
  have e0 : w2.cell? ⟨b, 0, none⟩ = some (.pointer (some ⟨b, 0, none⟩)) := by rw [Lib.cell_of_heap k2]; rfl
  have e1 : w2.cell? ⟨b, 1, none⟩ = some v := by rw [Lib.cell_of_heap k2]; rfl
  have f1 : w2.frozen? ⟨b, 1, none⟩ = false := Lib.frozen_of_heap k2 1
  obtain ⟨ao, n', cap, rfl⟩ : ∃ ao n' cap, v' = .slice ao n' cap := by
    rcases hown2.2 with ⟨hv, _⟩ | ⟨g, cap, cur, hv, _⟩
    · exact ⟨_, _, _, hv⟩
    · exact ⟨_, _, _, hv⟩
  have K2 := Lib.hid k2
  have hr : ∀ k, v.ownBlock = some k → B ≤ k := fun k hk => (hown.lt k hk).1
  have HB := Lib.hid (((Below.refl B w).grown hgrow (by omega) hr).setCell (p := ⟨b, 1, none⟩) hB (.slice ao n' cap))
  have HA : Apart b w (w2.setCell ⟨b, 1, none⟩ (.slice ao n' cap)) := by
    intro k cs t fr hk ht hh
    rw [Below.heap_setCell _ _ _ _ hk, hgrow.block k (lt_heap hh) (fun e => own_not hown hh ht e.symm)]
    exact hh
  have HAH := Lib.hid HA
  have HO := Lib.hid hown2
  clear k2 hgrow hown2 hr HA hown
  go_wp2
  go_ret2
  exact ⟨rfl, Lib.BuilderAt.put (T := 46) (e := 5) hB K2.out (bs' := bs ++ Lib.strCells s) (by simpa [Lib.strCells_length] using HO.out) (by decide), HB.out, HAH.out⟩


abbrev BW (b : Nat) (bs : List Value) (w : World) : Prop := Lib.BuilderAt 46 5 b b (.pointer (some ⟨b, 0, none⟩)) bs w
theorem lenW (B b : Nat) (bs : List Value) (w : World) (h : Lib.BuilderAt 46 5 B b (.pointer (some ⟨b, 0, none⟩)) bs w) :
    Calls Tryz.prog 20 #[.pointer (some ⟨b, 0, none⟩)] w fun e w' => e = .returned (.int .i64 bs.length) ∧ w = w' := by
  obtain ⟨hB, v, hbk, hown, hne, d0, d1, hlt⟩ := built_partsW h
  obtain ⟨ao, c, rfl, _, _, _⟩ : ∃ A c, v = .slice A bs.length c ∧ True ∧ True ∧ True := by
    rcases hown.2 with ⟨hv, h0⟩ | ⟨g, cap, cur, hv, _⟩
    · exact ⟨none, 0, by rw [hv, h0], trivial, trivial, trivial⟩
    · exact ⟨_, _, hv, trivial, trivial, trivial⟩
  clear hbk hown hne
  go_enter Tryz.func20, Tryz.ntmps20
  go_wp2
  go_ret
  exact ⟨rfl, rfl⟩
theorem cellsByteW : Tryz.prog.cellsOf 5 = 1 := by kernel_rfl
set_option maxHeartbeats 1000000 in
set_option maxRecDepth 100000 in
theorem stringW (B b : Nat) (l : List UInt8) (w : World) (h : Lib.BuilderAt 46 5 B b (.pointer (some ⟨b, 0, none⟩)) (Lib.byteCells l) w) (h0 : l ≠ []) :
    Calls Tryz.prog 21 #[.pointer (some ⟨b, 0, none⟩)] w fun e w' => e = .returned (.string ⟨l.toArray⟩) ∧ Below B w w' := by
  obtain ⟨hB, v, hbk, hown, hne⟩ := h
  have hl0 : l.length ≠ 0 := by simpa using h0
  rw [Lib.byteCells_length] at hown
  obtain ⟨g, cap, cur, rfl, hbg, hg, hnc, hcm, hcs, htake⟩ : ∃ g cap cur, v = .slice (some ⟨g, 0, none⟩) l.length cap ∧ B ≤ g ∧ w.heap[g]? = some (.cells cur 5 (0, 0)) ∧ l.length ≤ cap ∧ cap ≤ maxLen ∧ cur.size = cap * 1 ∧ cur.toList.take (l.length * 1) = Lib.byteCells l := by
    rcases hown.2 with ⟨_, hz⟩ | ⟨g, cap, cur, hv, r⟩
    · exact absurd hz hl0
    · exact ⟨g, cap, cur, hv, r⟩
  have c1 : w.drew.cell? ⟨b, 1, none⟩ = some (.slice (some ⟨g, 0, none⟩) l.length cap) := by
    have : w.drew.heap[b]? = some (.cells #[.pointer (some ⟨b, 0, none⟩), .slice (some ⟨g, 0, none⟩) l.length cap] 46 (0, 0)) := hbk
    rw [Lib.cell_of_heap this]; rfl
  have hSD : (Builtin.unsafeSliceData_ #[42] 94 #[.slice (some ⟨g, 0, none⟩) l.length cap]).run Tryz.prog w.drew = .ok (.pointer (some ⟨g, 0, none⟩)) w.drew :=
    Lib.run_unsafeSliceData_row _ _ _ _ _ _ (by omega)
  have hUS : (Builtin.unsafeString_ #[94, 3] 9 #[.pointer (some ⟨g, 0, none⟩), .int .i64 l.length]).run Tryz.prog w.drew = .ok (.string ⟨l.toArray⟩) (w.drew.freeze ⟨g, 0, none⟩ l.length) := by
    refine Lib.run_unsafeString_row w.drew 94 3 9 5 Tryz.underlying94 cellsByteW g cur.size (by have hg' : w.drew.heap[g]? = some (.cells cur 5 (0, 0)) := hg; simp [World.shape?, hg']) l h0 (by omega) (by unfold maxLen at hcm; omega) ?_
    intro j x hx
    have := hown.cells (g := g) rfl j (.int .u8 x.toNat) (by simp [Lib.byteCells, hx])
    exact this
  clear hbk hown hne hg htake
  go_enter Tryz.func21, Tryz.ntmps21
  go_wp2
  go_region
  all_goals (go_wp2; go_ret; exact ⟨rfl, Lib.below_freeze (Below.drew (Below.refl B w)) (p := ⟨g, 0, none⟩) hbg _⟩)
/-- the writer's put -/
theorem putW (B b : Nat) (bs : List Value) (n z : Int) (w : World) (h : Lib.BuilderAt 46 5 B b (.pointer (some ⟨b, 0, none⟩)) bs w) (hlen : bs.length + 8 ≤ 140737488355328) (hBw : B ≤ w.heap.size) :
    Calls Tryz.prog 17 #[.pointer (some ⟨b, 0, none⟩), .int .i64 n, .int .i64 z] w fun e w' => e = .returned (.tuple #[]) ∧ Lib.BuilderAt 46 5 B b (.pointer (some ⟨b, 0, none⟩)) (bs ++ Lib.strCells (putB n z)) w' ∧ Below B w w' ∧ Apart b w w' := by
  have hps := putB_size n z
  go_enter Tryz.func17, Tryz.ntmps17
  go_wp2_with (first | (go_at_call 48; refine (put_any n z _).mono ?_; rintro e w1 ⟨rfl, hb1⟩; have h1 := built_keepW h hb1; have HB1 := Lib.hid hb1; have hs1 := hb1.size; clear hb1) | (go_at_call 16; refine (wstrKW B b _ _ _ h1 (by omega) (by omega)).mono ?_; rintro e w2 ⟨rfl, h2, hb2, ha2⟩))
  go_end0
  exact ⟨rfl, h2, (HB1.out.mono hBw).trans hb2, (apart_below HB1.out).trans ha2⟩

end Go.Proofs.YthfegbhbokhlkaaGreatDoor

/- Gi -/
/- Layer 11: the bytes of attributes and members; the writer's putAttributes and putMembers. -/
namespace Go.Proofs.YthfegbhbokhlkaaGreatDoor
open Go.ChangeShapes Go.WideShapes Go.ChangeAt Go.RowKit Go.PlainAid
set_option linter.unusedSimpArgs false
set_option linter.unusedVariables false

def catB {α : Type} (f : α → ByteArray) : List α → ByteArray
  | [] => ⟨#[]⟩
  | a :: l => f a ++ catB f l
theorem catB_app {α : Type} (f : α → ByteArray) : ∀ (L M : List α), catB f (L ++ M) = catB f L ++ catB f M
  | [], M => by show catB f M = ⟨#[]⟩ ++ catB f M; exact (ByteArray.empty_append).symm
  | a :: l, M => by show f a ++ catB f (l ++ M) = f a ++ catB f l ++ catB f M; rw [catB_app f l M, ByteArray.append_assoc]
theorem catB_one {α : Type} (f : α → ByteArray) (a : α) : catB f [a] = f a := by show f a ++ ⟨#[]⟩ = f a; exact ByteArray.append_empty
theorem catB_take {α : Type} {f : α → ByteArray} {L : List α} {k : Nat} {p : α} (h : L[k]? = some p) : catB f (L.take (k + 1)) = catB f (L.take k) ++ f p := by
  rw [List.take_add_one, h, Option.toList_some, catB_app, catB_one]
theorem catB_size {α : Type} {f : α → ByteArray} {L : List α} {z : Nat} (h : ∀ a ∈ L, (f a).size ≤ z) : (catB f L).size ≤ L.length * z := by
  induction L with
  | nil => exact Nat.zero_le _
  | cons a l ih =>
    have h1 := h a List.mem_cons_self
    have h2 := ih (fun b hb => h b (List.mem_cons_of_mem _ hb))
    show (f a ++ catB f l).size ≤ _
    rw [ByteArray.size_append, List.length_cons, Nat.add_mul]
    omega
def aB (a : Atr) : ByteArray := putB a.n 2 ++ putB a.s.size 4 ++ a.s
def asB (L : List Atr) : ByteArray := putB L.length 2 ++ catB aB L
def mvB (m : Mv) : ByteArray := putB m.f 2 ++ putB m.n 2 ++ putB m.d 2 ++ asB m.l
def msB (L : List Mv) : ByteArray := putB L.length 2 ++ catB mvB L
theorem aB_size {a : Atr} (h : a.s.size ≤ 65535) : (aB a).size ≤ 65551 := by
  have h1 := putB_size a.n 2
  have h2 := putB_size a.s.size 4
  unfold aB
  rw [ByteArray.size_append, ByteArray.size_append]; omega
theorem take_mem {α : Type} {L : List α} {k : Nat} {P : α → Prop} (h : ∀ a ∈ L, P a) : ∀ a ∈ L.take k, P a := fun a ha => h a (List.mem_of_mem_take ha)
theorem asT_size {L : List Atr} (hl : L.length ≤ 16) (h : ∀ a ∈ L, a.s.size ≤ 65535) (k : Nat) : (catB aB (L.take k)).size ≤ 1048816 := by
  have h1 := catB_size (f := aB) (L := L.take k) (z := 65551) (fun a ha => aB_size (take_mem h a ha))
  have h2 : (L.take k).length ≤ 16 := by rw [List.length_take]; omega
  omega
theorem asB_size {L : List Atr} (hl : L.length ≤ 16) (h : ∀ a ∈ L, a.s.size ≤ 65535) : (asB L).size ≤ 1048824 := by
  have h1 := asT_size hl h L.length
  rw [List.take_length] at h1
  have h2 := putB_size L.length 2
  unfold asB
  rw [ByteArray.size_append]; omega
/-- an attribute list that the writer takes -/
structure Ask (L : List Atr) : Prop where
  len : L.length ≤ 16
  sz : ∀ a ∈ L, a.s.size ≤ 65535
theorem mvB_size {m : Mv} (h : Ask m.l) : (mvB m).size ≤ 1048848 := by
  have h1 := putB_size m.f 2
  have h2 := putB_size m.n 2
  have h3 := putB_size m.d 2
  have h4 := asB_size h.len h.sz
  unfold mvB
  rw [ByteArray.size_append, ByteArray.size_append, ByteArray.size_append]; omega
theorem msT_size {L : List Mv} (hl : L.length ≤ 64) (h : ∀ m ∈ L, Ask m.l) (k : Nat) : (catB mvB (L.take k)).size ≤ 67126272 := by
  have h1 := catB_size (f := mvB) (L := L.take k) (z := 1048848) (fun a ha => mvB_size (h a (List.mem_of_mem_take ha)))
  have h2 : (L.take k).length ≤ 64 := by rw [List.length_take]; omega
  omega
theorem msB_size {L : List Mv} (hl : L.length ≤ 64) (h : ∀ m ∈ L, Ask m.l) : (msB L).size ≤ 67126280 := by
  have h1 := msT_size hl h L.length
  rw [List.take_length] at h1
  have h2 := putB_size L.length 2
  unfold msB
  rw [ByteArray.size_append]; omega
theorem four_cellsM {W : World} {B : Nat} {x y z u : Value} {t : TypeId} (h : W.heap[B]? = some (.cells #[x, y, z, u] t)) : W.cell? ⟨B, 0, none⟩ = some x ∧ W.cell? ⟨B, 1, none⟩ = some y ∧ W.cell? ⟨B, 2, none⟩ = some z ∧ W.cell? ⟨B, 3, none⟩ = some u := by
  refine ⟨?_, ?_, ?_, ?_⟩ <;> simp [World.cell?, h]
abbrev BWr (B b : Nat) (bs : List Value) (w : World) : Prop := Lib.BuilderAt 46 5 B b (.pointer (some ⟨b, 0, none⟩)) bs w
def WrRet (B b : Nat) (bs : List Value) (x : ByteArray) (w : World) (e : Ending) (w' : World) : Prop := e = .returned (.tuple #[]) ∧ BWr B b (bs ++ Lib.strCells x) w' ∧ Below B w w' ∧ Apart b w w'

set_option maxRecDepth 100000 in
set_option maxHeartbeats 1000000 in
theorem putAs_any (B b : Nat) (bs : List Value) {w0 : World} {A : Option Addr} {n c : Nat} {L : List Atr} (hrow : RowAt aF 2 w0 A L) (hl : L.length = n) (hk : Ask L) (w : World) (hb0 : Below w0.heap.size w0 w) (h0 : w0.heap.size ≤ B) (hlen : bs.length ≤ 1000000000) (hBw : B ≤ w.heap.size) (h : BWr B b bs w) :
    Calls Tryz.prog 19 #[.pointer (some ⟨b, 0, none⟩), .slice A n c] w (WrRet B b bs (asB L) w) := by
  have HR := Lib.hid hrow
  have HK := Lib.hid hk
  have HL := Lib.hid hl
  have HB0 := Lib.hid hb0
  have hn16 := hk.len
  have hp2 := putB_size n 2
  clear hrow hk hb0 hl
  rw [HL.out] at hn16
  go_enter Tryz.func19, Tryz.ntmps19
  go_wp2_with (go_at_call 17; refine (putW B b bs _ 2 _ h (by omega) (by omega)).mono ?_; rintro e w1 ⟨rfl, hbl1, hb1, ha1⟩; have HBL := Lib.hid hbl1; have HB1 := Lib.hid hb1; have HA1 := Lib.hid ha1; clear hbl1 hb1 ha1)
  go_loopw [12] (fun i wr => ∃ k : Nat, k ≤ n ∧ i = .int .i64 k ∧ BWr B b (bs ++ Lib.strCells (putB n 2 ++ catB aB (L.take k))) wr ∧ Below B w wr ∧ Apart b w wr) (fun i _ => n - (intOf i).toNat)
  case atStart => exact ⟨0, Nat.zero_le _, rfl, by rw [List.take_zero, show putB n 2 ++ catB aB [] = putB n 2 from ByteArray.append_empty]; exact HBL.out, HB1.out, HA1.out⟩
  case round =>
    obtain ⟨k, hkn, rfl, hbl, hbr, har⟩ := hrel
    have HBR := Lib.hid hbr
    have HAR := Lib.hid har
    clear hbr har
    by_cases hlt : k < n
    · obtain ⟨p, hp⟩ : ∃ p, L[k]? = some p := ⟨L[k]'(by rw [HL.out]; exact hlt), List.getElem?_eq_getElem _⟩
      obtain ⟨g, o, rfl, hg, hcell⟩ := (HR.out.up (HB0.out.trans (HBR.out.mono h0))).get hp
      have a0 : wr.cell? ⟨g, o + k * 2, none⟩ = some (.int .i64 p.n) := hcell 0 _ rfl
      have a1 : wr.cell? ⟨g, o + k * 2 + 1, none⟩ = some (.string p.s) := hcell 1 _ rfl
      have hps := HK.out.sz p (List.mem_of_getElem? hp)
      have HPK := Lib.hid hp
      have hsz := asT_size HK.out.len HK.out.sz k
      have hk0 : (0 : Int) ≤ (k : Int) := by omega
      have hk1 : (k : Int) < (n : Int) := by omega
      have hpa := putB_size p.n 2
      have hpb := putB_size p.s.size 4
      have hxx : (bs ++ Lib.strCells (putB n 2 ++ catB aB (L.take k))).length ≤ 1100000000 := by rw [List.length_append, Lib.strCells_length, ByteArray.size_append]; omega
      clear hcell hp hsz
      go_upto_region 4 with fail
      have hkb : wr.heap.size ≠ b := by have := hbl.lt; omega
      have hbl0 := built_keepW hbl (below_al (Below.refl _ _) (.cells #[.int .i64 p.n, .string p.s] 93))
      have hBB := HBR.out.alloc (Nat.le_trans hBw HBR.out.size) (.cells #[.int .i64 p.n, .string p.s] 93)
      have hAA := HAR.out.trans (apart_below (b := b) (below_al (Below.refl _ wr) (.cells #[.int .i64 p.n, .string p.s] 93)))
      have kc : (wr.alloc (.cells #[.int .i64 p.n, .string p.s] 93)).heap[wr.heap.size]? = some (.cells #[.int .i64 p.n, .string p.s] 93) := World.alloc_heap_new wr _
      clear a0 a1
      generalize wr.alloc (.cells #[.int .i64 p.n, .string p.s] 93) = W2 at hbl0 hBB hAA kc ⊢
      replace hbl := hbl0
      clear hbl0
      have HAA := Lib.hid hAA
      have HBB := Lib.hid hBB
      have hs2 := Nat.le_trans hBw hBB.size
      clear hAA hBB
      obtain ⟨c0, c1, cf, cl⟩ := two_cellsA kc
      go_wp2_with (first
        | (go_at_call 17; refine (putW B b _ _ _ _ hbl (by simp only [List.length_append, Lib.strCells_length] at hxx ⊢; omega) (by omega)).mono ?_; rintro e w3 ⟨rfl, hbl2, hbx, ha⟩; replace kc := ha _ _ _ _ hkb (by decide) kc; obtain ⟨c0, c1, cf, cl⟩ := two_cellsA kc; replace hbl := hbl2; replace HBB := Lib.hid (HBB.out.trans hbx); replace HAA := Lib.hid (HAA.out.trans ha); have hs3 := hbx.size; replace hs2 := Nat.le_trans hs2 hs3; clear ha hbx hs3))
      have HBLd := Lib.hid (built_keepW hbl (Below.refl _ _).drew)
      clear hbl
      go_region_with (go_at_call 16; refine (wstrKW B b _ _ _ HBLd.out (by simp only [List.length_append, Lib.strCells_length] at hxx ⊢; omega) (by simpa using hs2)).mono ?_; rintro e w5 ⟨rfl, hbl, hbx, ha⟩; replace HBB := Lib.hid (HBB.out.drew.trans hbx); replace HAA := Lib.hid (HAA.out.trans ((apart_below (Below.refl _ _).drew).trans ha)); clear ha hbx)
      go_wp2
      refine ⟨⟨k + 1, by omega, by go_num, by rw [catB_take HPK.out, show aB p = putB p.n 2 ++ putB p.s.size 4 ++ p.s from rfl]; simpa only [strC_app, List.append_assoc] using hbl, HBB.out, HAA.out⟩, ?_⟩
      simp [intOf]; omega
    · obtain rfl : k = n := by omega
      have HBL2 := Lib.hid hbl
      clear hbl
      go_wp2
      go_end0
      have := HBL2.out
      rw [List.take_of_length_le (by rw [HL.out]; exact Nat.le_refl _)] at this
      exact ⟨rfl, by unfold asB; rw [HL.out]; exact this, HBR.out, HAR.out⟩

set_option maxRecDepth 100000 in
set_option maxHeartbeats 1000000 in
theorem putMs_any (B b : Nat) (bs : List Value) {w0 : World} {A : Option Addr} {n c : Nat} {L : List Mb} (hrow : RowAt mF 4 w0 A L) (hok : ∀ m ∈ L, m.ok w0) (hl : L.length = n) (hn64 : n ≤ 64) (hk : ∀ m ∈ L, Ask m.l) (w : World) (hb0 : Below w0.heap.size w0 w) (h0 : w0.heap.size ≤ B) (hlen : bs.length ≤ 300000000) (hBw : B ≤ w.heap.size) (h : BWr B b bs w) :
    Calls Tryz.prog 18 #[.pointer (some ⟨b, 0, none⟩), .slice A n c] w (WrRet B b bs (msB (L.map Mb.v)) w) := by
  have HR := Lib.hid hrow
  have HK := Lib.hid hk
  have HL := Lib.hid hl
  have HB0 := Lib.hid hb0
  have HOK := Lib.hid hok
  have hp2 := putB_size n 2
  clear hrow hk hb0 hl hok
  go_enter Tryz.func18, Tryz.ntmps18
  go_wp2_with (go_at_call 17; refine (putW B b bs _ 2 _ h (by omega) (by omega)).mono ?_; rintro e w1 ⟨rfl, hbl1, hb1, ha1⟩; have HBL := Lib.hid hbl1; have HB1 := Lib.hid hb1; have HA1 := Lib.hid ha1; clear hbl1 hb1 ha1)
  go_loopw [12] (fun i wr => ∃ k : Nat, k ≤ n ∧ i = .int .i64 k ∧ BWr B b (bs ++ Lib.strCells (putB n 2 ++ catB mvB ((L.map Mb.v).take k))) wr ∧ Below B w wr ∧ Apart b w wr) (fun i _ => n - (intOf i).toNat)
  case atStart => exact ⟨0, Nat.zero_le _, rfl, by rw [List.take_zero, show putB n 2 ++ catB mvB [] = putB n 2 from ByteArray.append_empty]; exact HBL.out, HB1.out, HA1.out⟩
  case round =>
    obtain ⟨k, hkn, rfl, hbl, hbr, har⟩ := hrel
    have HBR := Lib.hid hbr
    have HAR := Lib.hid har
    clear hbr har
    by_cases hlt : k < n
    · obtain ⟨p, hp⟩ : ∃ p, L[k]? = some p := ⟨L[k]'(by rw [HL.out]; exact hlt), List.getElem?_eq_getElem _⟩
      obtain ⟨g, o, rfl, hg, hcell⟩ := (HR.out.up (HB0.out.trans (HBR.out.mono h0))).get hp
      have a0 : wr.cell? ⟨g, o + k * 4, none⟩ = some (.int .i64 p.f) := hcell 0 _ rfl
      have a1 : wr.cell? ⟨g, o + k * 4 + 1, none⟩ = some (.int .i64 p.n) := hcell 1 _ rfl
      have a2 : wr.cell? ⟨g, o + k * 4 + 2, none⟩ = some (.int .i64 p.d) := hcell 2 _ rfl
      have a3 : wr.cell? ⟨g, o + k * 4 + 3, none⟩ = some (.slice p.A p.k p.c) := hcell 3 _ rfl
      have HPM := Lib.hid (List.mem_of_getElem? hp)
      have hpv : (L.map Mb.v)[k]? = some p.v := by rw [List.getElem?_map, hp]; rfl
      have HPK := Lib.hid hpv
      have hsz := msT_size (L := L.map Mb.v) (by rw [List.length_map, HL.out]; exact hn64) (fun m hm => by obtain ⟨x, hx, rfl⟩ := List.mem_map.1 hm; exact HK.out x hx) k
      have hk0 : (0 : Int) ≤ (k : Int) := by omega
      have hk1 : (k : Int) < (n : Int) := by omega
      have hpa := putB_size p.f 2
      have hpb := putB_size p.n 2
      have hpc := putB_size p.d 2
      have hxx : (bs ++ Lib.strCells (putB n 2 ++ catB mvB ((L.map Mb.v).take k))).length ≤ 400000000 := by rw [List.length_append, Lib.strCells_length, ByteArray.size_append]; omega
      clear hcell hp hsz hpv
      go_upto_region 4 with fail
      have hkb : wr.heap.size ≠ b := by have := hbl.lt; omega
      have hbl0 := built_keepW hbl (below_al (Below.refl _ _) (.cells #[.int .i64 p.f, .int .i64 p.n, .int .i64 p.d, .slice p.A p.k p.c] 39))
      have hBB := HBR.out.alloc (Nat.le_trans hBw HBR.out.size) (.cells #[.int .i64 p.f, .int .i64 p.n, .int .i64 p.d, .slice p.A p.k p.c] 39)
      have hAA := HAR.out.trans (apart_below (b := b) (below_al (Below.refl _ wr) (.cells #[.int .i64 p.f, .int .i64 p.n, .int .i64 p.d, .slice p.A p.k p.c] 39)))
      have kc : (wr.alloc (.cells #[.int .i64 p.f, .int .i64 p.n, .int .i64 p.d, .slice p.A p.k p.c] 39)).heap[wr.heap.size]? = some (.cells #[.int .i64 p.f, .int .i64 p.n, .int .i64 p.d, .slice p.A p.k p.c] 39) := World.alloc_heap_new wr _
      clear a0 a1 a2 a3
      generalize wr.alloc (.cells #[.int .i64 p.f, .int .i64 p.n, .int .i64 p.d, .slice p.A p.k p.c] 39) = W2 at hbl0 hBB hAA kc ⊢
      replace hbl := hbl0
      clear hbl0
      have HAA := Lib.hid hAA
      have HBB := Lib.hid hBB
      have hs2 := Nat.le_trans hBw hBB.size
      clear hAA hBB
      obtain ⟨c0, c1, c2, c3⟩ := four_cellsM kc
      go_wp2_with (first
        | (go_at_call 17; refine (putW B b _ _ _ _ hbl (by simp only [List.length_append, Lib.strCells_length] at hxx ⊢; omega) (by omega)).mono ?_; rintro e w3 ⟨rfl, hbl2, hbx, ha⟩; replace kc := ha _ _ _ _ hkb (by decide) kc; obtain ⟨c0, c1, c2, c3⟩ := four_cellsM kc; replace hbl := hbl2; replace HBB := Lib.hid (HBB.out.trans hbx); replace HAA := Lib.hid (HAA.out.trans ha); have hs3 := hbx.size; replace hs2 := Nat.le_trans hs2 hs3; clear ha hbx hs3)
        | (go_at_call 19; refine (putAs_any B b _ (HOK.out p HPM.out).row (HOK.out p HPM.out).len (HK.out p HPM.out) _ (HB0.out.trans (HBB.out.mono h0)) h0 (by simp only [List.length_append, Lib.strCells_length] at hxx ⊢; omega) (by omega) hbl).mono ?_; rintro e w5 ⟨rfl, hbl5, hbx, ha⟩; have HB5 := Lib.hid (HBB.out.trans hbx); have HA5 := Lib.hid (HAA.out.trans ha); have HL5 := Lib.hid hbl5; clear ha hbx hbl5))
      go_roundw
      case rel => exact ⟨k + 1, by omega, by go_num, by rw [catB_take HPK.out, show mvB p.v = putB p.f 2 ++ putB p.n 2 ++ putB p.d 2 ++ asB p.l from rfl]; simpa only [strC_app, List.append_assoc] using HL5.out, HB5.out, HA5.out⟩
      case measure => simp [intOf]; omega
    · obtain rfl : k = n := by omega
      have HBL2 := Lib.hid hbl
      clear hbl
      go_wp2
      go_end0
      have := HBL2.out
      rw [List.take_of_length_le (by rw [List.length_map, HL.out]; exact Nat.le_refl _)] at this
      exact ⟨rfl, by unfold msB; rw [List.length_map, HL.out]; exact this, HBR.out, HAR.out⟩

end Go.Proofs.YthfegbhbokhlkaaGreatDoor

/- Gj -/
/- Layer 11: what is too many, what is too large. (gen/gj.py) -/
namespace Go.Proofs.YthfegbhbokhlkaaGreatDoor
open Go.ChangeShapes Go.WideShapes Go.ChangeAt Go.RowKit Go.PlainAid
set_option linter.unusedSimpArgs false
set_option linter.unusedVariables false

def wdB (n : Int) : Bool := decide (n < 0 ∨ 65535 < n)
def wdL (L : List Int) : Bool := L.any wdB
def waB (a : Atr) : Bool := wdB a.n || wdB a.s.size
def waL (L : List Atr) : Bool := L.any waB
def mnB (m : Mv) : Bool := decide (16 < m.l.length)
def mlB (m : Mv) : Bool := wdL [m.f, m.n, m.d] || waL m.l
def tmB (v : Fv) : Bool := decide (8 < v.i.length) || (decide (64 < v.m.length) || (decide (64 < v.g.length) || (decide (16 < v.a.length) || (v.m.any mnB || v.g.any mnB))))
def tlB (v : Fv) : Bool := wdL [v.f, v.t, v.s] || (wdL v.i || (waL v.a || (v.m.any mlB || v.g.any mlB)))
theorem any_stop {α : Type} {p : α → Bool} {L : List α} {k : Nat} {x : α} (h : L[k]? = some x) (hx : p x = true) : L.any p = true := List.any_eq_true.2 ⟨x, List.mem_of_getElem? h, hx⟩
theorem any_next {α : Type} {p : α → Bool} {L : List α} {k : Nat} {x : α} (h : L[k]? = some x) (h0 : (L.take k).any p = false) (hx : p x = false) : (L.take (k + 1)).any p = false := by
  rw [List.take_add_one, h, Option.toList_some, List.any_append, h0]
  simp [hx]
theorem any_all {α : Type} {p : α → Bool} {L : List α} {k : Nat} (h : (L.take k).any p = false) (hk : L.length = k) : L.any p = false := by
  rwa [List.take_of_length_le (by omega)] at h
theorem wd_no {n : Int} (h : 0 ≤ n) (h2 : n ≤ 65535) : wdB n = false := by unfold wdB; rw [decide_eq_false_iff_not]; omega
theorem wd_yes {n : Int} (h : n < 0 ∨ 65535 < n) : wdB n = true := by unfold wdB; rw [decide_eq_true_eq]; exact h

set_option maxRecDepth 100000 in
set_option maxHeartbeats 1000000 in
theorem wide_any {A : Option Addr} {n c : Nat} {L : List Int} (w : World) (hrow : RowAt iF 1 w A L) (hl : L.length = n) (hn : n ≤ 100000) :
    Calls Tryz.prog 45 #[.slice A n c] w fun e w' => e = .returned (.bool (wdL L)) ∧ w = w' := by
  have HR := Lib.hid hrow
  have HL := Lib.hid hl
  obtain ⟨W, hW⟩ : ∃ W, wdL L = W := ⟨_, rfl⟩
  have HW := Lib.hid hW
  rw [hW]
  clear hrow hl hW
  go_enter Tryz.func45, Tryz.ntmps45
  go_wp2
  go_loop [7] (fun i => ∃ k : Nat, k ≤ n ∧ i = .int .i64 k ∧ (L.take k).any wdB = false) (fun i => n - (intOf i).toNat)
  case atStart => exact ⟨0, Nat.zero_le _, rfl, rfl⟩
  case round =>
    obtain ⟨k, hkn, rfl, hno⟩ := hrel
    have HNO := Lib.hid hno
    clear hno
    by_cases hlt : k < n
    · obtain ⟨p, hp⟩ : ∃ p, L[k]? = some p := ⟨L[k]'(by rw [HL.out]; exact hlt), List.getElem?_eq_getElem _⟩
      obtain ⟨g, o, rfl, hg, hcell⟩ := HR.out.get hp
      have a0 : w.cell? ⟨g, o + k * 1, none⟩ = some (.int .i64 p) := hcell 0 _ rfl
      rw [Nat.mul_one] at a0
      have HPK := Lib.hid hp
      have hk0 : (0 : Int) ≤ (k : Int) := by omega
      have hk1 : (k : Int) < (n : Int) := by omega
      clear hcell hp
      by_cases h1 : p < 0
      · go_wp2
        go_ret
        exact ⟨by rw [← HW.out, show wdL L = true from any_stop HPK.out (wd_yes (Or.inl h1))]; rfl, rfl⟩
      · by_cases h2 : 65535 < p
        · go_wp2
          go_ret
          exact ⟨by rw [← HW.out, show wdL L = true from any_stop HPK.out (wd_yes (Or.inr h2))]; rfl, rfl⟩
        · go_wp2
          go_round
          case rel => exact ⟨k + 1, by omega, by go_num, any_next HPK.out HNO.out (wd_no (by omega) (by omega))⟩
          case measure => simp [intOf]; omega
    · obtain rfl : k = n := by omega
      go_wp2
      go_ret
      exact ⟨by rw [← HW.out, show wdL L = false from any_all HNO.out HL.out]; rfl, rfl⟩
theorem row_lit {W : World} {B : Nat} {xs : List Int} (h : W.heap[B]? = some (.cells (xs.map (Value.int .i64)).toArray 3)) : RowAt iF 1 W (some ⟨B, 0, none⟩) xs := by
  refine Or.inr ⟨B, 0, rfl, lt_heap h, fun k x hk j v hv => ?_⟩
  rcases j with _ | j
  · simp [iF] at hv
    subst hv
    simp [World.cell?, h, hk]
  · simp [iF] at hv

set_option maxRecDepth 100000 in
set_option maxHeartbeats 1000000 in
theorem wideAs_any {A : Option Addr} {n c : Nat} {L : List Atr} (w : World) (hrow : RowAt aF 2 w A L) (hl : L.length = n) (hn : n ≤ 100000) :
    Calls Tryz.prog 46 #[.slice A n c] w fun e w' => e = .returned (.bool (waL L)) ∧ Below w.heap.size w w' := by
  have HR := Lib.hid hrow
  have HL := Lib.hid hl
  have hB : Below w.heap.size w w := Below.refl _ _
  obtain ⟨W, hW⟩ : ∃ W, waL L = W := ⟨_, rfl⟩
  have HW := Lib.hid hW
  rw [hW]
  clear hrow hl hW
  go_enter Tryz.func46, Tryz.ntmps46
  go_wp2
  go_loopw [7] (fun i wr => ∃ k : Nat, k ≤ n ∧ i = .int .i64 k ∧ (L.take k).any waB = false ∧ Below w.heap.size w wr) (fun i _ => n - (intOf i).toNat)
  case atStart => exact ⟨0, Nat.zero_le _, rfl, rfl, hB⟩
  case round =>
    obtain ⟨k, hkn, rfl, hno, hBr⟩ := hrel
    have HNO := Lib.hid hno
    clear hno
    by_cases hlt : k < n
    · obtain ⟨p, hp⟩ : ∃ p, L[k]? = some p := ⟨L[k]'(by rw [HL.out]; exact hlt), List.getElem?_eq_getElem _⟩
      obtain ⟨g, o, rfl, hg, hcell⟩ := (HR.out.up hBr).get hp
      have a0 : wr.cell? ⟨g, o + k * 2, none⟩ = some (.int .i64 p.n) := hcell 0 _ rfl
      have a1 : wr.cell? ⟨g, o + k * 2 + 1, none⟩ = some (.string p.s) := hcell 1 _ rfl
      have HPK := Lib.hid hp
      have hk0 : (0 : Int) ≤ (k : Int) := by omega
      have hk1 : (k : Int) < (n : Int) := by omega
      clear hcell hp
      have hb2 := below_al (below_al hBr (.cells #[.int .i64 p.n, .string p.s] 93)) (.cells #[.int .i64 p.n, .int .i64 p.s.size] 3)
      have HB2 := Lib.hid hb2
      have hrw : RowAt iF 1 ((wr.alloc (.cells #[.int .i64 p.n, .string p.s] 93)).alloc (.cells #[.int .i64 p.n, .int .i64 p.s.size] 3)) (some ⟨wr.heap.size + 1, 0, none⟩) [p.n, (p.s.size : Int)] := row_lit (by
        have h1 := World.alloc_heap_new (wr.alloc (.cells #[.int .i64 p.n, .string p.s] 93)) (.cells #[.int .i64 p.n, .int .i64 p.s.size] 3)
        rw [show (wr.alloc (.cells #[.int .i64 p.n, .string p.s] 93)).heap.size = wr.heap.size + 1 by simp] at h1
        exact h1)
      have KW := Lib.hid (wide_any (c := 2) _ hrw rfl (show (2 : Nat) ≤ 100000 by omega))
      clear hb2 hrw
      have hwa : wdL [p.n, (p.s.size : Int)] = waB p := by unfold wdL waB; simp
      rw [hwa] at KW
      clear hwa
      cases hx : waB p with
      | true =>
        have HX := Lib.hid hx
        rw [hx] at KW
        clear hx
        go_wp2_with (go_at_call 45; refine KW.out.mono ?_; rintro e w' ⟨rfl, rfl⟩)
        go_ret
        exact ⟨by rw [← HW.out, show waL L = true from any_stop HPK.out HX.out]; rfl, HB2.out⟩
      | false =>
        have HX := Lib.hid hx
        rw [hx] at KW
        clear hx
        go_wp2_with (go_at_call 45; refine KW.out.mono ?_; rintro e w' ⟨rfl, rfl⟩)
        go_roundw
        case rel => exact ⟨k + 1, by omega, by go_num, any_next HPK.out HNO.out HX.out, HB2.out⟩
        case measure => simp [intOf]; omega
    · obtain rfl : k = n := by omega
      go_wp2
      go_ret
      exact ⟨by rw [← HW.out, show waL L = false from any_all HNO.out HL.out]; rfl, hBr⟩

end Go.Proofs.YthfegbhbokhlkaaGreatDoor

/- Gk -/
/- Layer 11: tooMany, tooLarge. (gen/gk.py) -/
namespace Go.Proofs.YthfegbhbokhlkaaGreatDoor
open Go.ChangeShapes Go.WideShapes Go.ChangeAt Go.RowKit Go.PlainAid
set_option linter.unusedSimpArgs false
set_option linter.unusedVariables false

theorem fi_lens {w : World} {F : Fi} (h : F.ok w) : F.v.i.length = F.ij ∧ F.v.m.length = F.mj ∧ F.v.g.length = F.gj ∧ F.v.a.length = F.aj := ⟨h.il, by show (F.m.map Mb.v).length = _; rw [List.length_map]; exact h.ml, by show (F.g.map Mb.v).length = _; rw [List.length_map]; exact h.gl, h.al⟩
/-- the lists are short -/
structure Fi.few (F : Fi) : Prop where
  i : F.ij ≤ 100
  m : F.mj ≤ 100
  g : F.gj ≤ 100
  a : F.aj ≤ 100
  ma : ∀ x ∈ F.m, x.k ≤ 100
  ga : ∀ x ∈ F.g, x.k ≤ 100
theorem row3_at {W : World} (x y z : Int) : RowAt iF 1 (W.alloc (.cells #[.int .i64 x, .int .i64 y, .int .i64 z] 3)) (some ⟨W.heap.size, 0, none⟩) [x, y, z] := row_lit (World.alloc_heap_new W (.cells #[.int .i64 x, .int .i64 y, .int .i64 z] 3))

set_option maxRecDepth 100000 in
set_option maxHeartbeats 4000000 in
theorem tooMany_any (F : Fi) (w : World) (h : F.ok w) (hf : F.few) : Calls Tryz.prog 14 #[F.val] w fun e w' => e = .returned (.bool (tmB F.v)) ∧ Below w.heap.size w w' := by
  obtain ⟨l1, l2, l3, l4⟩ := fi_lens h
  obtain ⟨S, hS⟩ : ∃ S, tmB F.v = S := ⟨_, rfl⟩
  have HS := Lib.hid hS
  rw [hS]
  clear hS
  have OK := Lib.hid h
  have FW := Lib.hid hf
  obtain ⟨p, pA, pn, pc, f, t, s, i, iA, ij, ic, m, mA, mj, mc, g, gA, gj, gc, a, aA, aj, ac⟩ := F
  have hfi := hf.i
  have hfm := hf.m
  have hfg := hf.g
  have hfa := hf.a
  simp only at l1 l2 l3 l4 hfi hfm hfg hfa
  unfold Fi.val
  simp only
  have hB := below_al (Below.refl _ w) (.cells #[.slice pA pn pc, .int .i64 f, .int .i64 t, .int .i64 s, .slice iA ij ic, .slice mA mj mc, .slice gA gj gc, .slice aA aj ac] 27)
  have hOK := h
  clear h hf
  have hsp : tmB (Fi.v ⟨p, pA, pn, pc, f, t, s, i, iA, ij, ic, m, mA, mj, mc, g, gA, gj, gc, a, aA, aj, ac⟩) = (decide (8 < ij) || (decide (64 < mj) || (decide (64 < gj) || (decide (16 < aj) || ((m.map Mb.v).any mnB || (g.map Mb.v).any mnB))))) := by
    unfold tmB; rw [l1, l2, l3, l4]; rfl
  by_cases c0 : 8 < ij
  · have c0' : (8 : Int) < (ij : Int) := by omega
    have hs : tmB (Fi.v ⟨p, pA, pn, pc, f, t, s, i, iA, ij, ic, m, mA, mj, mc, g, gA, gj, gc, a, aA, aj, ac⟩) = true := by rw [hsp]; simp [c0]
    clear hsp l1 l2 l3 l4
    go_enter Tryz.func14, Tryz.ntmps14
    go_wp2
    go_ret
    exact ⟨by rw [← HS.out, hs]; rfl, hB⟩
  have c0' : ¬ (8 : Int) < (ij : Int) := by omega
  by_cases c1 : 64 < mj
  · have c1' : (64 : Int) < (mj : Int) := by omega
    have hs : tmB (Fi.v ⟨p, pA, pn, pc, f, t, s, i, iA, ij, ic, m, mA, mj, mc, g, gA, gj, gc, a, aA, aj, ac⟩) = true := by rw [hsp]; simp [c0, c1]
    clear hsp l1 l2 l3 l4
    go_enter Tryz.func14, Tryz.ntmps14
    go_wp2
    go_ret
    exact ⟨by rw [← HS.out, hs]; rfl, hB⟩
  have c1' : ¬ (64 : Int) < (mj : Int) := by omega
  by_cases c2 : 64 < gj
  · have c2' : (64 : Int) < (gj : Int) := by omega
    have hs : tmB (Fi.v ⟨p, pA, pn, pc, f, t, s, i, iA, ij, ic, m, mA, mj, mc, g, gA, gj, gc, a, aA, aj, ac⟩) = true := by rw [hsp]; simp [c0, c1, c2]
    clear hsp l1 l2 l3 l4
    go_enter Tryz.func14, Tryz.ntmps14
    go_wp2
    go_ret
    exact ⟨by rw [← HS.out, hs]; rfl, hB⟩
  have c2' : ¬ (64 : Int) < (gj : Int) := by omega
  by_cases c3 : 16 < aj
  · have c3' : (16 : Int) < (aj : Int) := by omega
    have hs : tmB (Fi.v ⟨p, pA, pn, pc, f, t, s, i, iA, ij, ic, m, mA, mj, mc, g, gA, gj, gc, a, aA, aj, ac⟩) = true := by rw [hsp]; simp [c0, c1, c2, c3]
    clear hsp l1 l2 l3 l4
    go_enter Tryz.func14, Tryz.ntmps14
    go_wp2
    go_ret
    exact ⟨by rw [← HS.out, hs]; rfl, hB⟩
  have c3' : ¬ (16 : Int) < (aj : Int) := by omega
  have hITm : (m.map Mb.v).any mnB = true → tmB (Fi.v ⟨p, pA, pn, pc, f, t, s, i, iA, ij, ic, m, mA, mj, mc, g, gA, gj, gc, a, aA, aj, ac⟩) = true := fun h => by rw [hsp, h]; simp
  have hITg : (g.map Mb.v).any mnB = true → tmB (Fi.v ⟨p, pA, pn, pc, f, t, s, i, iA, ij, ic, m, mA, mj, mc, g, gA, gj, gc, a, aA, aj, ac⟩) = true := fun h => by rw [hsp, h]; simp
  have hNO : (m.map Mb.v).any mnB = false → (g.map Mb.v).any mnB = false → tmB (Fi.v ⟨p, pA, pn, pc, f, t, s, i, iA, ij, ic, m, mA, mj, mc, g, gA, gj, gc, a, aA, aj, ac⟩) = false := fun h h' => by rw [hsp, h, h']; simp [c0, c1, c2, c3]
  have HITm := Lib.hid hITm
  have HITg := Lib.hid hITg
  have HNOT := Lib.hid hNO
  clear hsp l1 l2 l3 l4 hITm hITg hNO c0 c1 c2 c3 hOK
  have i0 : ∀ w, (Instr.index 87 (.agg #[.slice mA mj mc, .slice gA gj gc]) (.int .i64 0)).run Tryz.prog w = .ok (.slice mA mj mc) w := fun _ => by kernel_rfl
  have i1 : ∀ w, (Instr.index 87 (.agg #[.slice mA mj mc, .slice gA gj gc]) (.int .i64 1)).run Tryz.prog w = .ok (.slice gA gj gc) w := fun _ => by kernel_rfl
  go_enter Tryz.func14, Tryz.ntmps14
  go_wp2
  go_loopw [34] (fun i1 wr => ∃ j : Nat, j ≤ 2 ∧ i1 = .int .i64 j ∧ (0 < j → (m.map Mb.v).any mnB = false) ∧ (1 < j → (g.map Mb.v).any mnB = false) ∧ Below w.heap.size w wr) (fun i1 _ => 2 - (intOf i1).toNat)
  case atStart => exact ⟨0, by omega, rfl, fun h => absurd h (by omega), fun h => absurd h (by omega), hB⟩
  case round =>
    obtain ⟨j, hj, rfl, hm0, hg0, hBr⟩ := hrel
    rcases (by omega : j = 0 ∨ j = 1 ∨ j = 2) with rfl | rfl | rfl
    · clear hm0 hg0
      go_wp2
      go_loopw [39] (fun i2 wr => ∃ k : Nat, k ≤ mj ∧ i2 = .int .i64 k ∧ ((m.map Mb.v).take k).any mnB = false ∧ Below w.heap.size w wr) (fun i2 _ => mj - (intOf i2).toNat)
      case atStart => exact ⟨0, Nat.zero_le _, rfl, rfl, hBr⟩
      case round =>
        obtain ⟨k, hkn, rfl, hno, hBq⟩ := hrel
        have HNO := Lib.hid hno
        clear hno
        by_cases hlt : k < mj
        · obtain ⟨p, hp⟩ : ∃ p, m[k]? = some p := ⟨m[k]'(by rw [OK.out.ml]; exact hlt), List.getElem?_eq_getElem _⟩
          obtain ⟨ga', o', hAA, hg, hcell⟩ := (OK.out.mp.up hBq).get hp
          simp only at hAA
          subst hAA
          have a0 : wr.cell? ⟨ga', o' + k * 4, none⟩ = some (.int .i64 p.f) := hcell 0 _ rfl
          have a1 : wr.cell? ⟨ga', o' + k * 4 + 1, none⟩ = some (.int .i64 p.n) := hcell 1 _ rfl
          have a2 : wr.cell? ⟨ga', o' + k * 4 + 2, none⟩ = some (.int .i64 p.d) := hcell 2 _ rfl
          have a3 : wr.cell? ⟨ga', o' + k * 4 + 3, none⟩ = some (.slice p.A p.k p.c) := hcell 3 _ rfl
          have hmem := List.mem_of_getElem? hp
          have hkk := FW.out.ma p hmem
          have hpo := OK.out.mo p hmem
          have hpl := hpo.len
          have hpv : (m.map Mb.v)[k]? = some p.v := by rw [List.getElem?_map, hp]; rfl
          have HPK := Lib.hid hpv
          have HPO := Lib.hid hpo
          have hk0 : (0 : Int) ≤ (k : Int) := by omega
          have hk1 : (k : Int) < (mj : Int) := by omega
          clear hcell hp hpv hmem hpo
          by_cases hx : 16 < p.k
          · have hx' : (16 : Int) < (p.k : Int) := by omega
            go_wp2
            go_ret
            exact ⟨by rw [← HS.out, HITm.out (any_stop HPK.out (by unfold mnB; rw [decide_eq_true_eq]; show 16 < p.l.length; omega))]; rfl, below_al hBq _⟩
          · have hx' : ¬ (16 : Int) < (p.k : Int) := by omega
            go_wp2
            go_roundw
            case rel => exact ⟨k + 1, by omega, by go_num, any_next HPK.out HNO.out (by unfold mnB; rw [decide_eq_false_iff_not]; show ¬ 16 < p.l.length; omega), below_al hBq _⟩
            case measure => simp [intOf]; omega
        · obtain rfl : k = mj := by omega
          have hall : (m.map Mb.v).any mnB = false := any_all HNO.out (by rw [List.length_map]; exact OK.out.ml)
          have HEV := Lib.hid hall
          clear hall
          go_wp2
          go_roundw
          case rel => exact ⟨1, by omega, rfl, fun _ => HEV.out, fun h => absurd h (by omega), hBq⟩
          case measure => simp [intOf]
    · have HM := Lib.hid (hm0 (by omega))
      clear hm0 hg0
      go_wp2
      go_loopw [39] (fun i2 wr => ∃ k : Nat, k ≤ gj ∧ i2 = .int .i64 k ∧ ((g.map Mb.v).take k).any mnB = false ∧ Below w.heap.size w wr) (fun i2 _ => gj - (intOf i2).toNat)
      case atStart => exact ⟨0, Nat.zero_le _, rfl, rfl, hBr⟩
      case round =>
        obtain ⟨k, hkn, rfl, hno, hBq⟩ := hrel
        have HNO := Lib.hid hno
        clear hno
        by_cases hlt : k < gj
        · obtain ⟨p, hp⟩ : ∃ p, g[k]? = some p := ⟨g[k]'(by rw [OK.out.gl]; exact hlt), List.getElem?_eq_getElem _⟩
          obtain ⟨ga', o', hAA, hg, hcell⟩ := (OK.out.gp.up hBq).get hp
          simp only at hAA
          subst hAA
          have a0 : wr.cell? ⟨ga', o' + k * 4, none⟩ = some (.int .i64 p.f) := hcell 0 _ rfl
          have a1 : wr.cell? ⟨ga', o' + k * 4 + 1, none⟩ = some (.int .i64 p.n) := hcell 1 _ rfl
          have a2 : wr.cell? ⟨ga', o' + k * 4 + 2, none⟩ = some (.int .i64 p.d) := hcell 2 _ rfl
          have a3 : wr.cell? ⟨ga', o' + k * 4 + 3, none⟩ = some (.slice p.A p.k p.c) := hcell 3 _ rfl
          have hmem := List.mem_of_getElem? hp
          have hkk := FW.out.ga p hmem
          have hpo := OK.out.go p hmem
          have hpl := hpo.len
          have hpv : (g.map Mb.v)[k]? = some p.v := by rw [List.getElem?_map, hp]; rfl
          have HPK := Lib.hid hpv
          have HPO := Lib.hid hpo
          have hk0 : (0 : Int) ≤ (k : Int) := by omega
          have hk1 : (k : Int) < (gj : Int) := by omega
          clear hcell hp hpv hmem hpo
          by_cases hx : 16 < p.k
          · have hx' : (16 : Int) < (p.k : Int) := by omega
            go_wp2
            go_ret
            exact ⟨by rw [← HS.out, HITg.out (any_stop HPK.out (by unfold mnB; rw [decide_eq_true_eq]; show 16 < p.l.length; omega))]; rfl, below_al hBq _⟩
          · have hx' : ¬ (16 : Int) < (p.k : Int) := by omega
            go_wp2
            go_roundw
            case rel => exact ⟨k + 1, by omega, by go_num, any_next HPK.out HNO.out (by unfold mnB; rw [decide_eq_false_iff_not]; show ¬ 16 < p.l.length; omega), below_al hBq _⟩
            case measure => simp [intOf]; omega
        · obtain rfl : k = gj := by omega
          have hall : (g.map Mb.v).any mnB = false := any_all HNO.out (by rw [List.length_map]; exact OK.out.gl)
          have HEV := Lib.hid hall
          clear hall
          go_wp2
          go_roundw
          case rel => exact ⟨2, by omega, rfl, fun _ => HM.out, fun _ => HEV.out, hBq⟩
          case measure => simp [intOf]
    · have HM := Lib.hid (hm0 (by omega))
      have HG := Lib.hid (hg0 (by omega))
      clear hm0 hg0
      go_wp2
      go_ret
      exact ⟨by rw [← HS.out, HNOT.out HM.out HG.out]; rfl, hBr⟩

set_option maxRecDepth 100000 in
set_option maxHeartbeats 4000000 in
theorem tooLarge_any (F : Fi) (w : World) (h : F.ok w) (hf : F.few) : Calls Tryz.prog 15 #[F.val] w fun e w' => e = .returned (.bool (tlB F.v)) ∧ Below w.heap.size w w' := by
  obtain ⟨l1, l2, l3, l4⟩ := fi_lens h
  obtain ⟨S, hS⟩ : ∃ S, tlB F.v = S := ⟨_, rfl⟩
  have HS := Lib.hid hS
  rw [hS]
  clear hS
  have OK := Lib.hid h
  have FW := Lib.hid hf
  obtain ⟨p, pA, pn, pc, f, t, s, i, iA, ij, ic, m, mA, mj, mc, g, gA, gj, gc, a, aA, aj, ac⟩ := F
  have hfi := hf.i
  have hfm := hf.m
  have hfg := hf.g
  have hfa := hf.a
  simp only at l1 l2 l3 l4 hfi hfm hfg hfa
  unfold Fi.val
  simp only
  have hB := below_al (Below.refl _ w) (.cells #[.slice pA pn pc, .int .i64 f, .int .i64 t, .int .i64 s, .slice iA ij ic, .slice mA mj mc, .slice gA gj gc, .slice aA aj ac] 27)
  have hOK := h
  clear h hf
  have hsp : tlB (Fi.v ⟨p, pA, pn, pc, f, t, s, i, iA, ij, ic, m, mA, mj, mc, g, gA, gj, gc, a, aA, aj, ac⟩) = (wdL [f, t, s] || (wdL i || (waL a || ((m.map Mb.v).any mlB || (g.map Mb.v).any mlB)))) := rfl
  have hrw := row3_at (W := w.alloc (.cells #[.slice pA pn pc, .int .i64 f, .int .i64 t, .int .i64 s, .slice iA ij ic, .slice mA mj mc, .slice gA gj gc, .slice aA aj ac] 27)) f t s
  rw [show (w.alloc (.cells #[.slice pA pn pc, .int .i64 f, .int .i64 t, .int .i64 s, .slice iA ij ic, .slice mA mj mc, .slice gA gj gc, .slice aA aj ac] 27)).heap.size = w.heap.size + 1 by simp] at hrw
  have hb2 := below_al hB (.cells #[.int .i64 f, .int .i64 t, .int .i64 s] 3)
  have HB2 := Lib.hid hb2
  have K1 := Lib.hid (wide_any (n := 3) (c := 3) _ hrw rfl (show (3 : Nat) ≤ 100000 by omega))
  have K2 := Lib.hid (wide_any (c := ic) ((w.alloc (.cells #[.slice pA pn pc, .int .i64 f, .int .i64 t, .int .i64 s, .slice iA ij ic, .slice mA mj mc, .slice gA gj gc, .slice aA aj ac] 27)).alloc (.cells #[.int .i64 f, .int .i64 t, .int .i64 s] 3)) (hOK.ip.up hb2) hOK.il (show ij ≤ 100000 by omega))
  have K3 := Lib.hid (wideAs_any (c := ac) ((w.alloc (.cells #[.slice pA pn pc, .int .i64 f, .int .i64 t, .int .i64 s, .slice iA ij ic, .slice mA mj mc, .slice gA gj gc, .slice aA aj ac] 27)).alloc (.cells #[.int .i64 f, .int .i64 t, .int .i64 s] 3)) (hOK.ap.up hb2) hOK.al (show aj ≤ 100000 by omega))
  simp only at K2 K3
  clear hrw hb2 hOK l1 l2 l3 l4
  cases x1 : wdL [f, t, s] with
  | true =>
    have hs : tlB (Fi.v ⟨p, pA, pn, pc, f, t, s, i, iA, ij, ic, m, mA, mj, mc, g, gA, gj, gc, a, aA, aj, ac⟩) = true := by rw [hsp, x1]; rfl
    rw [x1] at K1
    clear hsp x1
    go_enter Tryz.func15, Tryz.ntmps15
    go_wp2_with (go_at_call 45; (with_reducible refine K1.out.mono ?_); rintro e w' ⟨rfl, rfl⟩)
    go_ret
    exact ⟨by rw [← HS.out, hs]; rfl, HB2.out⟩
  | false =>
  cases x2 : wdL i with
  | true =>
    have hs : tlB (Fi.v ⟨p, pA, pn, pc, f, t, s, i, iA, ij, ic, m, mA, mj, mc, g, gA, gj, gc, a, aA, aj, ac⟩) = true := by rw [hsp, x1, x2]; rfl
    rw [x1] at K1
    rw [x2] at K2
    clear hsp x1 x2
    go_enter Tryz.func15, Tryz.ntmps15
    go_wp2_with (first | (go_at_call 45; (with_reducible refine K1.out.mono ?_); rintro e w' ⟨rfl, rfl⟩) | (go_at_call 45; (with_reducible refine K2.out.mono ?_); rintro e w' ⟨rfl, rfl⟩))
    go_ret
    exact ⟨by rw [← HS.out, hs]; rfl, HB2.out⟩
  | false =>
  cases x3 : waL a with
  | true =>
    have hs : tlB (Fi.v ⟨p, pA, pn, pc, f, t, s, i, iA, ij, ic, m, mA, mj, mc, g, gA, gj, gc, a, aA, aj, ac⟩) = true := by rw [hsp, x1, x2, x3]; rfl
    rw [x1] at K1
    rw [x2] at K2
    rw [x3] at K3
    clear hsp x1 x2 x3
    go_enter Tryz.func15, Tryz.ntmps15
    go_wp2_with (first | (go_at_call 45; (with_reducible refine K1.out.mono ?_); rintro e w' ⟨rfl, rfl⟩) | (go_at_call 45; (with_reducible refine K2.out.mono ?_); rintro e w' ⟨rfl, rfl⟩) | (go_at_call 46; (with_reducible refine K3.out.mono ?_); rintro e w5 ⟨rfl, hb5⟩))
    go_ret
    exact ⟨by rw [← HS.out, hs]; rfl, below_on HB2.out hb5⟩
  | false =>
  have hITm : (m.map Mb.v).any mlB = true → tlB (Fi.v ⟨p, pA, pn, pc, f, t, s, i, iA, ij, ic, m, mA, mj, mc, g, gA, gj, gc, a, aA, aj, ac⟩) = true := fun h => by rw [hsp, h]; simp
  have hITg : (g.map Mb.v).any mlB = true → tlB (Fi.v ⟨p, pA, pn, pc, f, t, s, i, iA, ij, ic, m, mA, mj, mc, g, gA, gj, gc, a, aA, aj, ac⟩) = true := fun h => by rw [hsp, h]; simp
  have hNO : (m.map Mb.v).any mlB = false → (g.map Mb.v).any mlB = false → tlB (Fi.v ⟨p, pA, pn, pc, f, t, s, i, iA, ij, ic, m, mA, mj, mc, g, gA, gj, gc, a, aA, aj, ac⟩) = false := fun h h' => by rw [hsp, h, h', x1, x2, x3]; rfl
  have HITm := Lib.hid hITm
  have HITg := Lib.hid hITg
  have HNOT := Lib.hid hNO
  rw [x1] at K1
  rw [x2] at K2
  rw [x3] at K3
  clear hsp x1 x2 x3 hITm hITg hNO
  have i0 : ∀ w, (Instr.index 87 (.agg #[.slice mA mj mc, .slice gA gj gc]) (.int .i64 0)).run Tryz.prog w = .ok (.slice mA mj mc) w := fun _ => by kernel_rfl
  have i1 : ∀ w, (Instr.index 87 (.agg #[.slice mA mj mc, .slice gA gj gc]) (.int .i64 1)).run Tryz.prog w = .ok (.slice gA gj gc) w := fun _ => by kernel_rfl
  go_enter Tryz.func15, Tryz.ntmps15
  go_wp2_with (first | (go_at_call 45; (with_reducible refine K1.out.mono ?_); rintro e w' ⟨rfl, rfl⟩) | (go_at_call 45; (with_reducible refine K2.out.mono ?_); rintro e w' ⟨rfl, rfl⟩) | (go_at_call 46; (with_reducible refine K3.out.mono ?_); rintro e w5 ⟨rfl, hb5⟩; have hX5 := (hb5.block w.heap.size (by simp; omega)).trans (laid_old (World.alloc_heap_new w (.cells #[.slice pA pn pc, .int .i64 f, .int .i64 t, .int .i64 s, .slice iA ij ic, .slice mA mj mc, .slice gA gj gc, .slice aA aj ac] 27))); obtain ⟨⟨y0, y1, y2, y3, y4, y5, y6, y7⟩, yf, ylt⟩ := eight_cellsF hX5; have hB5 := below_on HB2.out hb5; clear hb5 hX5))
  go_loopw [30] (fun i1 wr => ∃ j : Nat, j ≤ 2 ∧ i1 = .int .i64 j ∧ (0 < j → (m.map Mb.v).any mlB = false) ∧ (1 < j → (g.map Mb.v).any mlB = false) ∧ Below w.heap.size w wr) (fun i1 _ => 2 - (intOf i1).toNat)
  case atStart => exact ⟨0, by omega, rfl, fun h => absurd h (by omega), fun h => absurd h (by omega), hB5⟩
  case round =>
    obtain ⟨j, hj, rfl, hm0, hg0, hBr⟩ := hrel
    rcases (by omega : j = 0 ∨ j = 1 ∨ j = 2) with rfl | rfl | rfl
    · clear hm0 hg0
      go_wp2
      go_loopw [35] (fun i2 wr => ∃ k : Nat, k ≤ mj ∧ i2 = .int .i64 k ∧ ((m.map Mb.v).take k).any mlB = false ∧ Below w.heap.size w wr) (fun i2 _ => mj - (intOf i2).toNat)
      case atStart => exact ⟨0, Nat.zero_le _, rfl, rfl, hBr⟩
      case round =>
        obtain ⟨k, hkn, rfl, hno, hBq⟩ := hrel
        have HNO := Lib.hid hno
        clear hno
        by_cases hlt : k < mj
        · obtain ⟨p, hp⟩ : ∃ p, m[k]? = some p := ⟨m[k]'(by rw [OK.out.ml]; exact hlt), List.getElem?_eq_getElem _⟩
          obtain ⟨ga', o', hAA, hg, hcell⟩ := (OK.out.mp.up hBq).get hp
          simp only at hAA
          subst hAA
          have a0 : wr.cell? ⟨ga', o' + k * 4, none⟩ = some (.int .i64 p.f) := hcell 0 _ rfl
          have a1 : wr.cell? ⟨ga', o' + k * 4 + 1, none⟩ = some (.int .i64 p.n) := hcell 1 _ rfl
          have a2 : wr.cell? ⟨ga', o' + k * 4 + 2, none⟩ = some (.int .i64 p.d) := hcell 2 _ rfl
          have a3 : wr.cell? ⟨ga', o' + k * 4 + 3, none⟩ = some (.slice p.A p.k p.c) := hcell 3 _ rfl
          have hmem := List.mem_of_getElem? hp
          have hkk := FW.out.ma p hmem
          have hpo := OK.out.mo p hmem
          have hpl := hpo.len
          have hpv : (m.map Mb.v)[k]? = some p.v := by rw [List.getElem?_map, hp]; rfl
          have HPK := Lib.hid hpv
          have HPO := Lib.hid hpo
          have hk0 : (0 : Int) ≤ (k : Int) := by omega
          have hk1 : (k : Int) < (mj : Int) := by omega
          clear hcell hp hpv hmem hpo
          have hrw := row3_at (W := wr.alloc (.cells #[.int .i64 p.f, .int .i64 p.n, .int .i64 p.d, .slice p.A p.k p.c] 39)) p.f p.n p.d
          rw [show (wr.alloc (.cells #[.int .i64 p.f, .int .i64 p.n, .int .i64 p.d, .slice p.A p.k p.c] 39)).heap.size = wr.heap.size + 1 by simp] at hrw
          have hb2 := below_al (below_al hBq (.cells #[.int .i64 p.f, .int .i64 p.n, .int .i64 p.d, .slice p.A p.k p.c] 39)) (.cells #[.int .i64 p.f, .int .i64 p.n, .int .i64 p.d] 3)
          have HB2 := Lib.hid hb2
          have KW := Lib.hid (wide_any (n := 3) (c := 3) _ hrw rfl (show (3 : Nat) ≤ 100000 by omega))
          have KA := Lib.hid (wideAs_any (c := p.c) ((wr.alloc (.cells #[.int .i64 p.f, .int .i64 p.n, .int .i64 p.d, .slice p.A p.k p.c] 39)).alloc (.cells #[.int .i64 p.f, .int .i64 p.n, .int .i64 p.d] 3)) ((HPO.out.row).up (below_al (below_al hBq (.cells #[.int .i64 p.f, .int .i64 p.n, .int .i64 p.d, .slice p.A p.k p.c] 39)) (.cells #[.int .i64 p.f, .int .i64 p.n, .int .i64 p.d] 3))) HPO.out.len (by omega))
          clear hrw hb2
          cases hx : wdL [p.f, p.n, p.d] with
          | true =>
            rw [hx] at KW
            have hX : mlB p.v = true := by show (wdL [p.f, p.n, p.d] || waL p.l) = true; rw [hx]; rfl
            have HX := Lib.hid hX
            clear hx hX
            go_wp2_with (go_at_call 45; (with_reducible refine KW.out.mono ?_); rintro e w' ⟨rfl, rfl⟩)
            go_ret
            exact ⟨by rw [← HS.out, HITm.out (any_stop HPK.out HX.out)]; rfl, HB2.out⟩
          | false =>
            rw [hx] at KW
            cases hy : waL p.l with
            | true =>
              rw [hy] at KA
              have hX : mlB p.v = true := by show (wdL [p.f, p.n, p.d] || waL p.l) = true; rw [hy]; simp
              have HX := Lib.hid hX
              clear hx hX hy
              go_wp2_with (first | (go_at_call 45; (with_reducible refine KW.out.mono ?_); rintro e w' ⟨rfl, rfl⟩) | (go_at_call 46; (with_reducible refine KA.out.mono ?_); rintro e w6 ⟨rfl, hb6⟩))
              go_ret
              exact ⟨by rw [← HS.out, HITm.out (any_stop HPK.out HX.out)]; rfl, below_on HB2.out hb6⟩
            | false =>
              rw [hy] at KA
              have hX : mlB p.v = false := by show (wdL [p.f, p.n, p.d] || waL p.l) = false; rw [hx, hy]; rfl
              have HX := Lib.hid hX
              clear hx hX hy
              go_wp2_with (first | (go_at_call 45; (with_reducible refine KW.out.mono ?_); rintro e w' ⟨rfl, rfl⟩) | (go_at_call 46; (with_reducible refine KA.out.mono ?_); rintro e w6 ⟨rfl, hb6⟩))
              refine ⟨?_, ?_⟩
              · refine ⟨_, _, _, _, _, _, _, _, _, _, _, _, _, _, _, _, _, _, _, _, ?_, rfl⟩
                exact ⟨k + 1, by omega, by go_num, any_next HPK.out HNO.out HX.out, below_on HB2.out hb6⟩
              · simp [intOf]; omega
        · obtain rfl : k = mj := by omega
          have hall : (m.map Mb.v).any mlB = false := any_all HNO.out (by rw [List.length_map]; exact OK.out.ml)
          have HEV := Lib.hid hall
          clear hall
          go_wp2
          go_roundw
          case rel => exact ⟨1, by omega, rfl, fun _ => HEV.out, fun h => absurd h (by omega), hBq⟩
          case measure => simp [intOf]
    · have HM := Lib.hid (hm0 (by omega))
      clear hm0 hg0
      go_wp2
      go_loopw [35] (fun i2 wr => ∃ k : Nat, k ≤ gj ∧ i2 = .int .i64 k ∧ ((g.map Mb.v).take k).any mlB = false ∧ Below w.heap.size w wr) (fun i2 _ => gj - (intOf i2).toNat)
      case atStart => exact ⟨0, Nat.zero_le _, rfl, rfl, hBr⟩
      case round =>
        obtain ⟨k, hkn, rfl, hno, hBq⟩ := hrel
        have HNO := Lib.hid hno
        clear hno
        by_cases hlt : k < gj
        · obtain ⟨p, hp⟩ : ∃ p, g[k]? = some p := ⟨g[k]'(by rw [OK.out.gl]; exact hlt), List.getElem?_eq_getElem _⟩
          obtain ⟨ga', o', hAA, hg, hcell⟩ := (OK.out.gp.up hBq).get hp
          simp only at hAA
          subst hAA
          have a0 : wr.cell? ⟨ga', o' + k * 4, none⟩ = some (.int .i64 p.f) := hcell 0 _ rfl
          have a1 : wr.cell? ⟨ga', o' + k * 4 + 1, none⟩ = some (.int .i64 p.n) := hcell 1 _ rfl
          have a2 : wr.cell? ⟨ga', o' + k * 4 + 2, none⟩ = some (.int .i64 p.d) := hcell 2 _ rfl
          have a3 : wr.cell? ⟨ga', o' + k * 4 + 3, none⟩ = some (.slice p.A p.k p.c) := hcell 3 _ rfl
          have hmem := List.mem_of_getElem? hp
          have hkk := FW.out.ga p hmem
          have hpo := OK.out.go p hmem
          have hpl := hpo.len
          have hpv : (g.map Mb.v)[k]? = some p.v := by rw [List.getElem?_map, hp]; rfl
          have HPK := Lib.hid hpv
          have HPO := Lib.hid hpo
          have hk0 : (0 : Int) ≤ (k : Int) := by omega
          have hk1 : (k : Int) < (gj : Int) := by omega
          clear hcell hp hpv hmem hpo
          have hrw := row3_at (W := wr.alloc (.cells #[.int .i64 p.f, .int .i64 p.n, .int .i64 p.d, .slice p.A p.k p.c] 39)) p.f p.n p.d
          rw [show (wr.alloc (.cells #[.int .i64 p.f, .int .i64 p.n, .int .i64 p.d, .slice p.A p.k p.c] 39)).heap.size = wr.heap.size + 1 by simp] at hrw
          have hb2 := below_al (below_al hBq (.cells #[.int .i64 p.f, .int .i64 p.n, .int .i64 p.d, .slice p.A p.k p.c] 39)) (.cells #[.int .i64 p.f, .int .i64 p.n, .int .i64 p.d] 3)
          have HB2 := Lib.hid hb2
          have KW := Lib.hid (wide_any (n := 3) (c := 3) _ hrw rfl (show (3 : Nat) ≤ 100000 by omega))
          have KA := Lib.hid (wideAs_any (c := p.c) ((wr.alloc (.cells #[.int .i64 p.f, .int .i64 p.n, .int .i64 p.d, .slice p.A p.k p.c] 39)).alloc (.cells #[.int .i64 p.f, .int .i64 p.n, .int .i64 p.d] 3)) ((HPO.out.row).up (below_al (below_al hBq (.cells #[.int .i64 p.f, .int .i64 p.n, .int .i64 p.d, .slice p.A p.k p.c] 39)) (.cells #[.int .i64 p.f, .int .i64 p.n, .int .i64 p.d] 3))) HPO.out.len (by omega))
          clear hrw hb2
          cases hx : wdL [p.f, p.n, p.d] with
          | true =>
            rw [hx] at KW
            have hX : mlB p.v = true := by show (wdL [p.f, p.n, p.d] || waL p.l) = true; rw [hx]; rfl
            have HX := Lib.hid hX
            clear hx hX
            go_wp2_with (go_at_call 45; (with_reducible refine KW.out.mono ?_); rintro e w' ⟨rfl, rfl⟩)
            go_ret
            exact ⟨by rw [← HS.out, HITg.out (any_stop HPK.out HX.out)]; rfl, HB2.out⟩
          | false =>
            rw [hx] at KW
            cases hy : waL p.l with
            | true =>
              rw [hy] at KA
              have hX : mlB p.v = true := by show (wdL [p.f, p.n, p.d] || waL p.l) = true; rw [hy]; simp
              have HX := Lib.hid hX
              clear hx hX hy
              go_wp2_with (first | (go_at_call 45; (with_reducible refine KW.out.mono ?_); rintro e w' ⟨rfl, rfl⟩) | (go_at_call 46; (with_reducible refine KA.out.mono ?_); rintro e w6 ⟨rfl, hb6⟩))
              go_ret
              exact ⟨by rw [← HS.out, HITg.out (any_stop HPK.out HX.out)]; rfl, below_on HB2.out hb6⟩
            | false =>
              rw [hy] at KA
              have hX : mlB p.v = false := by show (wdL [p.f, p.n, p.d] || waL p.l) = false; rw [hx, hy]; rfl
              have HX := Lib.hid hX
              clear hx hX hy
              go_wp2_with (first | (go_at_call 45; (with_reducible refine KW.out.mono ?_); rintro e w' ⟨rfl, rfl⟩) | (go_at_call 46; (with_reducible refine KA.out.mono ?_); rintro e w6 ⟨rfl, hb6⟩))
              refine ⟨?_, ?_⟩
              · refine ⟨_, _, _, _, _, _, _, _, _, _, _, _, _, _, _, _, _, _, _, _, ?_, rfl⟩
                exact ⟨k + 1, by omega, by go_num, any_next HPK.out HNO.out HX.out, below_on HB2.out hb6⟩
              · simp [intOf]; omega
        · obtain rfl : k = gj := by omega
          have hall : (g.map Mb.v).any mlB = false := any_all HNO.out (by rw [List.length_map]; exact OK.out.gl)
          have HEV := Lib.hid hall
          clear hall
          go_wp2
          go_roundw
          case rel => exact ⟨2, by omega, rfl, fun _ => HM.out, fun _ => HEV.out, hBq⟩
          case measure => simp [intOf]
    · have HM := Lib.hid (hm0 (by omega))
      have HG := Lib.hid (hg0 (by omega))
      clear hm0 hg0
      go_wp2
      go_ret
      exact ⟨by rw [← HS.out, HNOT.out HM.out HG.out]; rfl, hBr⟩

end Go.Proofs.YthfegbhbokhlkaaGreatDoor

/- Gl -/
/- Layer 11: Encode of the package. -/
namespace Go.Proofs.YthfegbhbokhlkaaGreatDoor
open Go.ChangeShapes Go.WideShapes Go.ChangeAt Go.RowKit Go.PlainAid
set_option linter.unusedSimpArgs false
set_option linter.unusedVariables false

def p2B (n : Int) : ByteArray := putB n 2
def feB (v : Fv) : ByteArray := hdB ++ encS v.p ++ putB v.f 2 ++ putB v.t 2 ++ putB v.s 2 ++ putB v.i.length 2 ++ catB p2B v.i ++ msB v.m ++ msB v.g ++ asB v.a
def feE (v : Fv) : Int := if chE v.p = 0 then (if tmB v = true then 5 else if tlB v = true then 8 else if 1048576 < (feB v).size then 8 else 0) else chE v.p
def feS (v : Fv) : ByteArray := if feE v = 0 then feB v else ⟨#[]⟩
theorem ck_sz {L : List Cn} {c : Cn} (h : ck L c = 0) : c.s.size ≤ 1024 := by
  unfold ck ckE at h
  split at h
  · split at h
    · rename_i hk hf
      rcases (fm_parts hf).1 with h1 | h1
      · rw [if_pos h1] at h
        split at h
        · cases h
        · omega
      · rw [h1]; exact Nat.zero_le _
    · cases h
  · cases h
theorem ch_short {L : List Cn} (h : chE L = 0) : ∀ c ∈ L, c.s.size ≤ 1024 := fun c hc => ck_sz ((ch_zero h).2 c hc)
theorem enc_fit {w0 : World} {A : Option Addr} {n c : Nat} {L : List Cn} (hF : Fits L) (hn : L.length = n) (hN : n ≤ 100000) (hp : Pool w0 w0.heap.size A L) (w : World) (hb : Below w0.heap.size w0 w) :
    Calls Tryz.prog 13 #[.slice A n c] w fun e w' => e = .returned (.tuple #[.string (encS L), .int .i64 (chE L)]) ∧ Below w.heap.size w w' := by
  by_cases h0 : chE L = 0
  · exact enc_any (fun c hc => Nat.le_trans (ch_short h0 c hc) (by omega)) hn hN hp w hb
  · have HP := Lib.hid (hp.up hb)
    have HN := Lib.hid hn
    clear hp hb hn
    have hB : Below w.heap.size w w := Below.refl _ _
    have g := enc_bad h0
    have hE : (chE L != 0) = true := by simpa using h0
    clear h0
    go_enter Tryz.func13, Tryz.ntmps13
    go_wp2_with (go_at_call 42; refine (check_any hF HN.out hN HP.out _ (by repeat (first | with_reducible exact hB | with_reducible exact Below.refl _ _ | with_reducible refine below_al ?_ _ | with_reducible refine below_st ?_ (by first | exact Nat.le_refl _ | exact Nat.le_add_right _ _ | (simp; omega)) _))).mono ?_; rintro e w1 ⟨rfl, hb1⟩; obtain ⟨hc1, hf1⟩ := bcell hb1; have hz1 := hb1.size; (try simp only [World.size_alloc, World.size_setCell] at hz1); (try have hza : w.heap.size < w1.heap.size := by omega); (try have hzb : w.heap.size + 1 < w1.heap.size := by omega); (try have hzc : w.heap.size + 1 + 1 < w1.heap.size := by omega); (try have hzd : wa.heap.size < w1.heap.size := by omega); (try replace hR := (hb1.block w.heap.size (by first | exact lt_heap hR | (have := lt_heap hR; simp; omega))).trans (by first | with_reducible exact hR | with_reducible exact laid_old hR)); replace hB := below_on (w := w) ((by repeat (first | with_reducible exact hB | with_reducible exact Below.refl _ _ | with_reducible refine below_al ?_ _ | with_reducible refine below_st ?_ (by first | exact Nat.le_refl _ | exact Nat.le_add_right _ _ | (simp; omega)) _))) hb1; clear hb1)
    go_ret2
    exact ⟨by rw [g]; rfl, (by repeat (first | with_reducible exact hB | with_reducible exact Below.refl _ _ | with_reducible refine below_al ?_ _ | with_reducible refine below_st ?_ (by first | exact Nat.le_refl _ | exact Nat.le_add_right _ _ | (simp; omega)) _))⟩
theorem enc1_sz (c : Cn) : (enc1 c).size ≤ 65560 := by
  have s1 := putB_size c.t 1
  have s4 := putB_size c.n 4
  have s8 := putB_size c.n 8
  have sa := putB_size c.a 2
  have sb := putB_size c.b 2
  have ss : (psB c.s).size ≤ 65537 := by
    have := psB_size c.s
    unfold psB at this ⊢
    split
    · rename_i h; rw [if_pos h] at this; omega
    · rw [strOfNums_size]; simp
  unfold enc1
  repeat' split
  all_goals (simp only [ByteArray.size_append]; omega)
theorem encS_sz (L : List Cn) (h : chE L = 0) : (encS L).size ≤ 70000000 := by
  have hl := (ch_zero h).1
  rw [enc_ok h, encP_cat, ByteArray.size_append]
  have h2 := putB_size L.length 2
  have key : ∀ L : List Cn, (catE L).size ≤ 65560 * L.length := by
    intro L
    induction L with
    | nil => exact Nat.zero_le _
    | cons c r ih =>
      have := enc1_sz c
      show (enc1 c ++ catE r).size ≤ _
      rw [ByteArray.size_append, List.length_cons]; omega
  have := key L
  omega
/-- what is neither too much nor too large -/
structure Fv.fit (v : Fv) : Prop where
  i : v.i.length ≤ 8
  m : v.m.length ≤ 64
  g : v.g.length ≤ 64
  a : v.a.length ≤ 16
  mk' : ∀ x ∈ v.m, Ask x.l
  gk' : ∀ x ∈ v.g, Ask x.l
  ak' : Ask v.a
  nm : ∀ x ∈ v.m, (0 ≤ x.f ∧ x.f ≤ 65535) ∧ (0 ≤ x.n ∧ x.n ≤ 65535) ∧ (0 ≤ x.d ∧ x.d ≤ 65535) ∧ ∀ y ∈ x.l, 0 ≤ y.n ∧ y.n ≤ 65535
  ng : ∀ x ∈ v.g, (0 ≤ x.f ∧ x.f ≤ 65535) ∧ (0 ≤ x.n ∧ x.n ≤ 65535) ∧ (0 ≤ x.d ∧ x.d ≤ 65535) ∧ ∀ y ∈ x.l, 0 ≤ y.n ∧ y.n ≤ 65535
  na : ∀ y ∈ v.a, 0 ≤ y.n ∧ y.n ≤ 65535
  ni : ∀ x ∈ v.i, 0 ≤ x ∧ x ≤ 65535
  n3 : (0 ≤ v.f ∧ v.f ≤ 65535) ∧ (0 ≤ v.t ∧ v.t ≤ 65535) ∧ (0 ≤ v.s ∧ v.s ≤ 65535)
theorem wd_in {n : Int} (h : wdB n = false) : 0 ≤ n ∧ n ≤ 65535 := by unfold wdB at h; rw [decide_eq_false_iff_not] at h; omega
theorem any_in {α : Type} {p : α → Bool} {L : List α} (h : L.any p = false) : ∀ x ∈ L, p x = false := fun x hx => by
  cases hp : p x with
  | false => rfl
  | true => rw [List.any_eq_true.2 ⟨x, hx, hp⟩] at h; cases h
theorem wa_in {L : List Atr} (h : waL L = false) : ∀ y ∈ L, (0 ≤ y.n ∧ y.n ≤ 65535) ∧ y.s.size ≤ 65535 := fun y hy => by
  have h1 := any_in h y hy
  unfold waB at h1
  rw [Bool.or_eq_false_iff] at h1
  have := wd_in h1.2
  exact ⟨wd_in h1.1, by omega⟩
theorem ml_in {m : Mv} (h : mlB m = false) (h16 : m.l.length ≤ 16) : Ask m.l ∧ (0 ≤ m.f ∧ m.f ≤ 65535) ∧ (0 ≤ m.n ∧ m.n ≤ 65535) ∧ (0 ≤ m.d ∧ m.d ≤ 65535) ∧ ∀ y ∈ m.l, 0 ≤ y.n ∧ y.n ≤ 65535 := by
  unfold mlB at h
  rw [Bool.or_eq_false_iff] at h
  have h1 := any_in h.1
  have h2 := wa_in h.2
  exact ⟨⟨h16, fun a ha => (h2 a ha).2⟩, wd_in (h1 _ (by simp)), wd_in (h1 _ (by simp)), wd_in (h1 _ (by simp)), fun y hy => (h2 y hy).1⟩
theorem fit_of {v : Fv} (h : tmB v = false) (h2 : tlB v = false) : v.fit := by
  unfold tmB at h
  simp only [Bool.or_eq_false_iff, decide_eq_false_iff_not] at h
  obtain ⟨a1, a2, a3, a4, a5, a6⟩ := h
  unfold tlB at h2
  simp only [Bool.or_eq_false_iff] at h2
  obtain ⟨b1, b2, b3, b4, b5⟩ := h2
  have km : ∀ x ∈ v.m, x.l.length ≤ 16 := fun x hx => by have := any_in a5 x hx; unfold mnB at this; rw [decide_eq_false_iff_not] at this; omega
  have kg : ∀ x ∈ v.g, x.l.length ≤ 16 := fun x hx => by have := any_in a6 x hx; unfold mnB at this; rw [decide_eq_false_iff_not] at this; omega
  have wa := wa_in b3
  have w3 := any_in b1
  exact ⟨by omega, by omega, by omega, by omega, fun x hx => (ml_in (any_in b4 x hx) (km x hx)).1, fun x hx => (ml_in (any_in b5 x hx) (kg x hx)).1, ⟨by omega, fun y hy => (wa y hy).2⟩, fun x hx => (ml_in (any_in b4 x hx) (km x hx)).2, fun x hx => (ml_in (any_in b5 x hx) (kg x hx)).2, fun y hy => (wa y hy).1, fun x hx => wd_in (any_in b2 x hx), wd_in (w3 _ (by simp)), wd_in (w3 _ (by simp)), wd_in (w3 _ (by simp))⟩
theorem feB_pos (v : Fv) : 0 < (feB v).size := by
  have h : hdB.size = 6 := rfl
  unfold feB
  simp only [ByteArray.size_append]
  omega

def FeRet (w : World) (v : Fv) (e : Ending) (w' : World) : Prop := e = .returned (.tuple #[.string (feS v), .int .i64 (feE v)]) ∧ Below w.heap.size w w'
theorem FeRet.no {w w' : World} {v : Fv} {e : Int} (h : feE v = e) (he : ¬ e = 0) (hb : Below w.heap.size w w') : FeRet w v (.returned (.tuple #[.string ⟨#[]⟩, .int .i64 e])) w' :=
  ⟨by unfold feS; rw [if_neg (by rw [h]; exact he), h], hb⟩

end Go.Proofs.YthfegbhbokhlkaaGreatDoor

/- Gm -/
/- Layer 11: Encode of the package, walked. (gen/gm.py) -/
namespace Go.Proofs.YthfegbhbokhlkaaGreatDoor
open Go.ChangeShapes Go.WideShapes Go.ChangeAt Go.RowKit Go.PlainAid
set_option linter.unusedSimpArgs false
set_option linter.unusedVariables false

theorem FeRet.yes {w w' : World} {v : Fv} (h : feE v = 0) (hb : Below w.heap.size w w') : FeRet w v (.returned (.tuple #[.string (feB v), .int .i64 0])) w' :=
  ⟨by unfold feS; rw [if_pos h, h], hb⟩
set_option maxRecDepth 100000 in
set_option maxHeartbeats 4000000 in
theorem fenc_any (F : Fi) (w : World) (h : F.ok w) (hf : F.few) (hF : Fits F.p) (hN : F.pn ≤ 100000) : Calls Tryz.prog 7 #[F.val] w (FeRet w F.v) := by
  obtain ⟨Q, hQ⟩ : ∃ Q, FeRet w F.v = Q := ⟨_, rfl⟩
  have HQ := Lib.hid hQ
  rw [hQ]
  clear hQ
  have OK := Lib.hid h
  have hfi := hf.i
  have hfm := hf.m
  have hfg := hf.g
  have hfa := hf.a
  clear h
  unfold Fi.val
  go_enter Tryz.func7, Tryz.ntmps7
  go_upto_region 2 with (go_at_call 13; refine (enc_fit hF OK.out.pl hN OK.out.pp _ (below_al (Below.refl _ _) (.cells #[.slice F.pA F.pn F.pc, .int .i64 F.f, .int .i64 F.t, .int .i64 F.s, .slice F.iA F.ij F.ic, .slice F.mA F.mj F.mc, .slice F.gA F.gj F.gc, .slice F.aA F.aj F.ac] 27))).mono ?_; rintro e w1 ⟨rfl, hb1⟩; have hX := first_box hb1; have HB1 := Lib.hid (below_on (w := w) (below_al (Below.refl _ _) (.cells #[.slice F.pA F.pn F.pc, .int .i64 F.f, .int .i64 F.t, .int .i64 F.s, .slice F.iA F.ij F.ic, .slice F.mA F.mj F.mc, .slice F.gA F.gj F.gc, .slice F.aA F.aj F.ac] 27)) hb1); clear hb1; obtain ⟨⟨x0, x1, x2, x3, x4, x5, x6, x7⟩, xf, xlt⟩ := eight_cellsF hX; have HX := Lib.hid hX; clear hX)
  have hsz1 : w.heap.size < w1.heap.size := xlt
  by_cases h1 : chE F.p = 0
  · have H1 := Lib.hid h1
    have K2 := Lib.hid (tooMany_any F w1 (OK.out.up HB1.out) hf)
    unfold Fi.val at K2
    cases h2 : tmB F.v with
    | true =>
      rw [h2] at K2
      have hE : feE F.v = 5 := by unfold feE; rw [show F.v.p = F.p from rfl, if_pos h1, if_pos h2]
      have HE := Lib.hid hE
      clear hE h2
      go_wp2_with (go_at_call 14; (with_reducible refine K2.out.mono ?_); rintro e w2 ⟨rfl, hb2⟩; have hX := (hb2.block w.heap.size (by omega)).trans HX.out; have HB2 := Lib.hid (below_on HB1.out hb2); have HK3 := Lib.hid hb2; clear hb2; obtain ⟨⟨x0, x1, x2, x3, x4, x5, x6, x7⟩, xf, xlt⟩ := eight_cellsF hX; have HX := Lib.hid hX; clear hX)
      rw [← HQ.out]
      exact FeRet.no HE.out (by decide) HB2.out
    | false =>
    rw [h2] at K2
    cases h3 : tlB F.v with
    | true =>
      have hE : feE F.v = 8 := by unfold feE; rw [show F.v.p = F.p from rfl, if_pos h1, if_neg (by rw [h2]; decide), if_pos h3]
      have HE := Lib.hid hE
      have H3 := Lib.hid h3
      clear hE h2 h3
      go_wp2_with (first | (go_at_call 14; (with_reducible refine K2.out.mono ?_); rintro e w2 ⟨rfl, hb2⟩; have hX := (hb2.block w.heap.size (by omega)).trans HX.out; have HB2 := Lib.hid (below_on HB1.out hb2); have HK3 := Lib.hid hb2; clear hb2; obtain ⟨⟨x0, x1, x2, x3, x4, x5, x6, x7⟩, xf, xlt⟩ := eight_cellsF hX; have HX := Lib.hid hX; clear hX) | (go_at_call 15; refine (tooLarge_any F _ (OK.out.up HB2.out) hf).mono ?_; rintro e w3 ⟨rfl, hb3⟩; rw [H3.out]; have hX := (hb3.block w.heap.size (by omega)).trans HX.out; have HB3 := Lib.hid (below_on HB2.out hb3); clear hb3; obtain ⟨⟨x0, x1, x2, x3, x4, x5, x6, x7⟩, xf, xlt⟩ := eight_cellsF hX; have HX := Lib.hid hX; clear hX))
      rw [← HQ.out]
      exact FeRet.no HE.out (by decide) HB3.out
    | false =>
    have hE : feE F.v = if 1048576 < (feB F.v).size then 8 else 0 := by unfold feE; rw [show F.v.p = F.p from rfl, if_pos h1, if_neg (by rw [h2]; decide), if_neg (by rw [h3]; decide)]
    have HE := Lib.hid hE
    have H3 := Lib.hid h3
    have FT := Lib.hid (fit_of h2 h3)
    have hes := encS_sz F.p h1
    clear hE h2 h3
    go_upto_region 8 with (first | (go_at_call 14; (with_reducible refine K2.out.mono ?_); rintro e w2 ⟨rfl, hb2⟩; have hX := (hb2.block w.heap.size (by omega)).trans HX.out; have HB2 := Lib.hid (below_on HB1.out hb2); have HK3 := Lib.hid hb2; clear hb2; obtain ⟨⟨x0, x1, x2, x3, x4, x5, x6, x7⟩, xf, xlt⟩ := eight_cellsF hX; have HX := Lib.hid hX; clear hX) | (go_at_call 15; refine (tooLarge_any F _ (OK.out.up HB2.out) hf).mono ?_; rintro e w3 ⟨rfl, hb3⟩; rw [H3.out]; have hX := (hb3.block w.heap.size (by omega)).trans HX.out; have HB3 := Lib.hid (below_on HB2.out hb3); clear hb3; obtain ⟨⟨x0, x1, x2, x3, x4, x5, x6, x7⟩, xf, xlt⟩ := eight_cellsF hX; have HX := Lib.hid hX; clear hX))
    have hsz3 : w.heap.size < w3.heap.size := xlt
    go_upto_region 9 with fail
    have HFR := Lib.hid (show Lib.IsBuilder 46 5 w3.heap.size w3.heap.size [] (w3.alloc (.cells #[.pointer none, .slice none 0 0] 46)) from Lib.fresh_isBuilder _ _ w3)
    have hX := laid_old (o' := (.cells #[.pointer none, .slice none 0 0] 46)) HX.out
    have HB4 := Lib.hid (below_al HB3.out (.cells #[.pointer none, .slice none 0 0] 46))
    have HBB := Lib.hid (show Below w3.heap.size w3 (w3.alloc (.cells #[.pointer none, .slice none 0 0] 46)) from below_al (Below.refl _ _) (.cells #[.pointer none, .slice none 0 0] 46))
    have hs2 : w3.heap.size ≤ (w3.alloc (.cells #[.pointer none, .slice none 0 0] 46)).heap.size := HBB.out.size
    obtain ⟨⟨x0, x1, x2, x3, x4, x5, x6, x7⟩, xf, xlt⟩ := eight_cellsF hX
    have HX := Lib.hid hX
    clear hX
    generalize w3.alloc (.cells #[.pointer none, .slice none 0 0] 46) = W4 at HFR HX HB4 HBB hs2 x0 x1 x2 x3 x4 x5 x6 x7 xf xlt ⊢
    obtain ⟨b, hb⟩ : ∃ b, w3.heap.size = b := ⟨_, rfl⟩
    rw [hb] at HFR hs2 hsz3 HBB ⊢
    have HW3 := Lib.hid hb
    clear hb
    have hb0 : w.heap.size ≤ b := by omega
    have hxx : (encS F.p).size ≤ 70000000 := hes
    have hhd : hdB.size = 6 := rfl
    have hpf := putB_size F.f 2
    have hpt := putB_size F.t 2
    have hps := putB_size F.s 2
    have hpi := putB_size F.ij 2
    go_upto_region 15 with (first | (go_at_call 16; refine (wstrW b b [] hdB _ HFR.out (by decide) (by omega)).mono ?_; rintro e w5 ⟨rfl, hbl, hbx⟩; have HBL := Lib.hid hbl; clear hbl HFR; have hX := (hbx.block w.heap.size (by omega)).trans HX.out; obtain ⟨⟨x0, x1, x2, x3, x4, x5, x6, x7⟩, xf, xlt⟩ := eight_cellsF hX; have HX := Lib.hid hX; clear hX; have HBB := Lib.hid (HBB.out.trans hbx); have hs3 := hbx.size; have hs2 := Nat.le_trans hs2 hs3; clear hbx hs3) | (go_at_call 16; refine (wstrKW b b _ _ _ HBL.out (by simp only [List.length_append, List.length_nil, Lib.strCells_length]; omega) (by omega)).mono ?_; rintro e w5 ⟨rfl, hbl, hbx, ha⟩; have HBL := Lib.hid hbl; clear hbl ha; have hX := (hbx.block w.heap.size (by omega)).trans HX.out; obtain ⟨⟨x0, x1, x2, x3, x4, x5, x6, x7⟩, xf, xlt⟩ := eight_cellsF hX; have HX := Lib.hid hX; clear hX; have HBB := Lib.hid (HBB.out.trans hbx); have hs3 := hbx.size; have hs2 := Nat.le_trans hs2 hs3; clear hbx hs3) | (go_at_call 17; refine (putW b b _ _ 2 _ HBL.out (by simp only [List.length_append, List.length_nil, Lib.strCells_length]; omega) (by omega)).mono ?_; rintro e w5 ⟨rfl, hbl, hbx, ha⟩; have HBL := Lib.hid hbl; clear hbl ha; have hX := (hbx.block w.heap.size (by omega)).trans HX.out; obtain ⟨⟨x0, x1, x2, x3, x4, x5, x6, x7⟩, xf, xlt⟩ := eight_cellsF hX; have HX := Lib.hid hX; clear hX; have HBB := Lib.hid (HBB.out.trans hbx); have hs3 := hbx.size; have hs2 := Nat.le_trans hs2 hs3; clear hbx hs3))
    have hmi := FT.out.i
    have hmm := FT.out.m
    have hmg := FT.out.g
    have hma := FT.out.a
    have lens := fi_lens OK.out
    rw [lens.1] at hmi
    rw [lens.2.1] at hmm
    rw [lens.2.2.1] at hmg
    rw [lens.2.2.2] at hma
    clear lens
    obtain ⟨PB, hPB⟩ : ∃ PB, hdB ++ encS F.p ++ putB F.f 2 ++ putB F.t 2 ++ putB F.s 2 ++ putB F.ij 2 = PB := ⟨_, rfl⟩
    have hPBs : PB.size ≤ 70000100 := by rw [← hPB]; simp only [ByteArray.size_append]; omega
    have HPB : BWr b b (Lib.strCells PB) w5 := by
      rw [← hPB]
      simpa only [strC_app, List.append_assoc, List.nil_append] using HBL.out
    have HPBH := Lib.hid HPB
    have HPBE := Lib.hid hPB
    have HWW := Lib.hid (HB3.out.trans ((HW3.out ▸ HBB.out : Below b w3 w5).mono hb0))
    have hs5 : b ≤ w5.heap.size := hs2
    clear HBL HPB hPB hpf hpt hps hpi hxx hhd hes HBB
    go_wp2
    go_loopw [43] (fun i wr => ∃ k : Nat, k ≤ F.ij ∧ i = .int .i64 k ∧ BWr b b (Lib.strCells (PB ++ catB p2B (F.i.take k))) wr ∧ Below b w5 wr) (fun i _ => F.ij - (intOf i).toNat)
    case atStart => exact ⟨0, Nat.zero_le _, rfl, by rw [List.take_zero, show PB ++ catB p2B [] = PB from ByteArray.append_empty]; exact HPBH.out, Below.refl _ _⟩
    case round =>
      obtain ⟨k, hkn, rfl, hbl, hbr⟩ := hrel
      have HBR := Lib.hid hbr
      have HBLr := Lib.hid hbl
      have hsr := Nat.le_trans hs5 hbr.size
      have hXr := (hbr.block w.heap.size (by omega)).trans HX.out
      obtain ⟨⟨x0, x1, x2, x3, x4, x5, x6, x7⟩, xf, xlt⟩ := eight_cellsF hXr
      have HXr := Lib.hid hXr
      have HWR := Lib.hid (HWW.out.trans (hbr.mono hb0))
      clear hbr hbl hXr
      have hci : (catB p2B (F.i.take k)).size ≤ 800 := by
        have h1 := catB_size (f := p2B) (L := F.i.take k) (z := 8) (fun a _ => putB_size a 2)
        have h2 : (F.i.take k).length ≤ 100 := by rw [List.length_take, OK.out.il]; omega
        omega
      by_cases hlt : k < F.ij
      · obtain ⟨p, hp⟩ : ∃ p, F.i[k]? = some p := ⟨F.i[k]'(by rw [OK.out.il]; exact hlt), List.getElem?_eq_getElem _⟩
        obtain ⟨g, o, hA, hg, hcell⟩ := (OK.out.ip.up HWR.out).get hp
        have a0 : wr.cell? ⟨g, o + k * 1, none⟩ = some (.int .i64 p) := hcell 0 _ rfl
        rw [Nat.mul_one] at a0
        have HPK := Lib.hid hp
        have hk0 : (0 : Int) ≤ (k : Int) := by omega
        have hk1 : (k : Int) < (F.ij : Int) := by omega
        clear hcell hp
        rw [hA]
        go_wp2_with (go_at_call 17; refine (putW b b _ _ 2 _ HBLr.out (by rw [Lib.strCells_length, ByteArray.size_append]; omega) (by omega)).mono ?_; rintro e w6 ⟨rfl, hbl, hbx, ha⟩; have HBL6 := Lib.hid hbl; have HBB6 := Lib.hid (HBR.out.trans hbx); clear hbl hbx ha)
        go_roundw
        case rel => exact ⟨k + 1, by omega, by go_num, by rw [catB_take HPK.out, show p2B p = putB p 2 from rfl]; simpa only [strC_app, List.append_assoc] using HBL6.out, HBB6.out⟩
        case measure => simp [intOf]; omega
      · obtain rfl : k = F.ij := by omega
        have hti : F.i.take F.ij = F.i := List.take_of_length_le (by rw [OK.out.il]; exact Nat.le_refl _)
        rw [hti] at HBLr hci
        clear hti
        go_upto_region 21 with (go_at_call 18; refine (putMs_any b b _ OK.out.mp OK.out.mo OK.out.ml hmm (fun m hm => FT.out.mk' m.v (List.mem_map_of_mem hm)) _ HWR.out hb0 (by rw [Lib.strCells_length, ByteArray.size_append]; omega) (by omega) HBLr.out).mono ?_; rintro e w6 ⟨rfl, hbl, hbx, ha⟩; have HBL6 := Lib.hid hbl; have HWR6 := Lib.hid (HWR.out.trans (hbx.mono hb0)); have hX := (hbx.block w.heap.size (by omega)).trans HXr.out; have hs6 := Nat.le_trans hsr hbx.size; clear hbl hbx ha; obtain ⟨⟨x0, x1, x2, x3, x4, x5, x6, x7⟩, xf, xlt⟩ := eight_cellsF hX; have HX := Lib.hid hX; clear hX)
        have hm1 := msB_size (L := F.m.map Mb.v) (by rw [List.length_map, OK.out.ml]; exact hmm) (fun m hm => FT.out.mk' m hm)
        have hm2 := msB_size (L := F.g.map Mb.v) (by rw [List.length_map, OK.out.gl]; exact hmg) (fun m hm => FT.out.gk' m hm)
        go_upto_region 22 with (go_at_call 18; refine (putMs_any b b _ OK.out.gp OK.out.go OK.out.gl hmg (fun m hm => FT.out.gk' m.v (List.mem_map_of_mem hm)) _ HWR6.out hb0 (by rw [List.length_append, Lib.strCells_length, Lib.strCells_length, ByteArray.size_append]; omega) (by omega) HBL6.out).mono ?_; rintro e w7 ⟨rfl, hbl, hbx, ha⟩; have HBL7 := Lib.hid hbl; have HWR7 := Lib.hid (HWR6.out.trans (hbx.mono hb0)); have hX := (hbx.block w.heap.size (by omega)).trans HX.out; have hs7 := Nat.le_trans hs6 hbx.size; clear hbl hbx ha; obtain ⟨⟨x0, x1, x2, x3, x4, x5, x6, x7⟩, xf, xlt⟩ := eight_cellsF hX; have HX := Lib.hid hX; clear hX)
        go_upto_region 23 with (go_at_call 19; refine (putAs_any b b _ OK.out.ap OK.out.al FT.out.ak' _ HWR7.out hb0 (by rw [List.length_append, List.length_append, Lib.strCells_length, Lib.strCells_length, Lib.strCells_length, ByteArray.size_append]; omega) (by omega) HBL7.out).mono ?_; rintro e w8 ⟨rfl, hbl, hbx, ha⟩; have HBL8 := Lib.hid hbl; have HWR8 := Lib.hid (HWR7.out.trans (hbx.mono hb0)); have hs8 := Nat.le_trans hs7 hbx.size; clear hbl hbx ha)
        have HFE : BWr b b (Lib.strCells (feB F.v)) w8 := by
          unfold feB
          rw [show F.v.p = F.p from rfl, show F.v.f = F.f from rfl, show F.v.t = F.t from rfl, show F.v.s = F.s from rfl, show F.v.i = F.i from rfl, show F.v.m = F.m.map Mb.v from rfl, show F.v.g = F.g.map Mb.v from rfl, show F.v.a = F.a from rfl, OK.out.il, HPBE.out]
          simpa only [strC_app, List.append_assoc] using HBL8.out
        have HFB := Lib.hid HFE
        have hlb : (Lib.strCells (feB F.v)).length = (feB F.v).size := Lib.strCells_length _
        have hne : (feB F.v).data.toList ≠ [] := by
          intro h
          have h1 := feB_pos F.v
          have h2 : (feB F.v).data.toList.length = (feB F.v).size := by simp
          rw [h, List.length_nil] at h2
          omega
        have hst := stringW b b (feB F.v).data.toList w8 (by rw [← Lib.strCells_eq]; exact HFE) hne
        rw [show (⟨(feB F.v).data.toList.toArray⟩ : ByteArray) = feB F.v by rw [Array.toArray_toList]] at hst
        have HST := Lib.hid hst
        clear hne hst
        have HLN := Lib.hid (lenW b b _ w8 HFE)
        rw [hlb] at HLN
        clear HFE HBL8 HBL7 HBL6 hlb
        by_cases hsz : 1048576 < (feB F.v).size
        · have hsz' : (1048576 : Int) < ((feB F.v).size : Int) := by omega
          have hE2 : feE F.v = 8 := by rw [HE.out, if_pos hsz]
          have HE2 := Lib.hid hE2
          clear hE2
          go_wp2_with (go_at_call 20; (with_reducible refine HLN.out.mono ?_); rintro e w' ⟨rfl, rfl⟩)
          rw [← HQ.out]
          exact FeRet.no HE2.out (by decide) HWR8.out
        · have hsz' : ((feB F.v).size : Int) ≤ 1048576 := by omega
          have hE2 : feE F.v = 0 := by rw [HE.out, if_neg hsz]
          have HE2 := Lib.hid hE2
          generalize ((feB F.v).size : Int) = z at hsz' HLN
          clear hE2 hsz
          go_wp2_with (first | (go_at_call 20; (with_reducible refine HLN.out.mono ?_); rintro e w' ⟨rfl, rfl⟩) | (go_at_call 21; (with_reducible refine HST.out.mono ?_); rintro e w9 ⟨rfl, hb9⟩))
          rw [← HQ.out]
          exact FeRet.yes HE2.out (HWR8.out.trans (hb9.mono hb0))
  · have hE : feE F.v = chE F.p := by unfold feE; rw [show F.v.p = F.p from rfl, if_neg h1]
    have HE := Lib.hid hE
    have h1' : (chE F.p != 0) = true := by simpa using h1
    clear hE
    go_wp2
    rw [← HQ.out]
    exact FeRet.no HE.out h1 HB1.out

end Go.Proofs.YthfegbhbokhlkaaGreatDoor
