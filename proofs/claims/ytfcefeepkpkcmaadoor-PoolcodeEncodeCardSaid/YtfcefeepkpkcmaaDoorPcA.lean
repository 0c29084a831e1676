import Derived.Test.YtfcefeepkpkcmaaDoorBuild
import Derived.Test.YtfcefeepkpkcmaaDoorOctM
import Derived.Test.YtfcefeepkpkcmaaDoorPoolCheck
import Derived.Test.YtfcefeepkpkcmaaDoorPoolValid

/- PcPut -/
/- Layer 6: a builder that leaves other variables alone; put; one constant's bytes. -/
namespace Go.Proofs.YtfcefeepkpkcmaaDoor
open Go.ChangeShapes Go.WideShapes Go.ChangeAt Go.RowKit Go.PlainAid
set_option linter.unusedSimpArgs false
set_option linter.unusedVariables false

/-- every other variable, of a type of its own, is as it was -/
def Apart (b : Nat) (w w' : World) : Prop := ∀ k cs t fr, k ≠ b → t ≠ 5 → w.heap[k]? = some (.cells cs t fr) → w'.heap[k]? = some (.cells cs t fr)
theorem Apart.trans {b : Nat} {w w1 w2 : World} (h : Apart b w w1) (k : Apart b w1 w2) : Apart b w w2 := fun i cs t fr hi ht hh => k i cs t fr hi ht (h i cs t fr hi ht hh)
theorem apart_below {b : Nat} {w w1 : World} (h : Below w.heap.size w w1) : Apart b w w1 := fun k cs t fr _ _ hh => (h.block k (lt_heap hh)).trans hh
theorem own_not {w : World} {B e n k t : Nat} {v : Value} {xs : List Value} {cs : Array Value} {fr : Nat × Nat} (h : w.ownsRow B e 1 v n xs) (hk : w.heap[k]? = some (.cells cs t fr)) (ht : t ≠ e) : v.ownBlock ≠ some k := by
  intro hv
  rcases h.2 with ⟨rfl, _⟩ | ⟨g, cap, cur, rfl, _, hg, _⟩
  · cases hv
  · have : g = k := Option.some.inj hv
    subst this
    rw [hg] at hk
    have := Option.some.inj hk
    injection this with _ h2 _
    exact ht h2.symm
theorem built_keep {B b : Nat} {p : Value} {bs : List Value} {w w' : World} (h : Lib.BuilderAt 65 5 B b p bs w) (hb : Below w.heap.size w w') : Lib.BuilderAt 65 5 B b p bs w' := by
  have hlt := h.lt
  obtain ⟨h1, v, h2, h3, h4⟩ := h
  exact ⟨h1, v, (hb.block b hlt).trans h2, owns_below h3 hb, h4⟩
theorem isb_keep {B b : Nat} {bs : List Value} {w w' : World} (h : Lib.IsBuilder 65 5 B b bs w) (hb : Below w.heap.size w w') : Lib.IsBuilder 65 5 B b bs w' := h.imp (fun h => built_keep h hb) (fun h => built_keep h hb)

set_option maxRecDepth 100000 in
set_option maxHeartbeats 1000000 in
theorem wstrK_any (B b : Nat) (bs : List Value) (s : ByteArray) (w : World) (h : Lib.BuilderAt 65 5 B b (.pointer (some ⟨b, 0, none⟩)) bs w) (hlen : bs.length + s.size ≤ 140737488355328) (hBw : B ≤ w.heap.size) :
    Calls Tryd.prog 60 #[.pointer (some ⟨b, 0, none⟩), .string s] w fun e w' => e = .returned (.tuple #[.int .i64 s.size, .nilIface]) ∧ Lib.BuilderAt 65 5 B b (.pointer (some ⟨b, 0, none⟩)) (bs ++ Lib.strCells s) w' ∧ Below B w w' ∧ Apart b w w' := by
  obtain ⟨i0, hi, hz0, hz1, hz2⟩ := info_parts ibyte
  obtain ⟨hB, v, hbk, hown, hne, d0, d1, hlt⟩ := built_parts h
  have HBK := Lib.hid hbk
  clear hbk
  go_enter Tryd.func60, Tryd.ntmps60
  go_wp2_with (first | (go_at_call 75; refine (check_used b _ h.cell0).mono ?_; rintro e w1 ⟨rfl, rfl⟩) | (at_builtin; refine Lib.wpList_append_own_string _ rfl _ _ 63 9 rfl B 5 i0 Tryd.underlying63 Tryd.underlying9 hi hz0 hz1 hz2 v bs.length bs rfl hown s rfl ?c3 ?c4 ?c5 ?_))
  case c3 => unfold maxLen; omega
  case c4 => omega
  case c5 => omega
  intro v' w2 hown2 hgrow _
  have k2 : w2.heap[b]? = some (.cells #[.pointer (some ⟨b, 0, none⟩), v] 65 (0, 0)) := by
    rw [hgrow.block b hlt (fun e => hne e.symm)]
    exact HBK.out
  have e0 : w2.cell? ⟨b, 0, none⟩ = some (.pointer (some ⟨b, 0, none⟩)) := by rw [Lib.cell_of_heap k2]; rfl
  have e1 : w2.cell? ⟨b, 1, none⟩ = some v := by rw [Lib.cell_of_heap k2]; rfl
  have f1 : w2.frozen? ⟨b, 1, none⟩ = false := Lib.frozen_of_heap k2 1
  obtain ⟨ao, n', cap, rfl⟩ : ∃ ao n' cap, v' = .slice ao n' cap := by
    rcases hown2.2 with ⟨hv, _⟩ | ⟨g, cap, cur, hv, _⟩
    · exact ⟨_, _, _, hv⟩
    · exact ⟨_, _, _, hv⟩
  have K2 := Lib.hid k2
  have hr : ∀ k, v.ownBlock = some k → B ≤ k := fun k hk => (hown.lt k hk).1
  have HB := Lib.hid (((Below.refl B w).grown hgrow (by omega) hr).setCell (p := ⟨b, 1, none⟩) hB (.slice ao n' cap))
  have HA : Apart b w (w2.setCell ⟨b, 1, none⟩ (.slice ao n' cap)) := by
    intro k cs t fr hk ht hh
    rw [Below.heap_setCell _ _ _ _ hk, hgrow.block k (lt_heap hh) (fun e => own_not hown hh ht e.symm)]
    exact hh
  have HAH := Lib.hid HA
  have HO := Lib.hid hown2
  clear k2 hgrow hown2 hr HA hown
  go_wp2
  go_ret2
  exact ⟨rfl, Lib.BuilderAt.put (T := 65) (e := 5) hB K2.out (bs' := bs ++ Lib.strCells s) (by simpa [Lib.strCells_length] using HO.out) (by decide), HB.out, HAH.out⟩

theorem putB_size (n z : Int) : (putB n z).size ≤ 8 := by
  unfold putB
  split
  · rename_i h
    have hl := putL_len n z h.1
    have : (strOfNums (putL n z)).size = (putL n z).length := strOfNums_size _
    rw [this, hl]
    rcases h.1 with rfl | rfl | rfl | rfl <;> decide
  · rw [strOfNums_size]; decide
theorem pcput_any (B b : Nat) (bs : List Value) (n z : Int) (w : World) (h : Lib.IsBuilder 65 5 B b bs w) (hlen : bs.length + 8 ≤ 140737488355328) (hBw : B ≤ w.heap.size) :
    Calls Tryd.prog 58 #[.pointer (some ⟨b, 0, none⟩), .int .i64 n, .int .i64 z] w fun e w' => e = .returned (.tuple #[]) ∧ Lib.BuilderAt 65 5 B b (.pointer (some ⟨b, 0, none⟩)) (bs ++ Lib.strCells (putB n z)) w' ∧ Below B w w' := by
  have hps := putB_size n z
  go_enter Tryd.func58, Tryd.ntmps58
  go_wp2_with (first | (go_at_call 74; refine (put_any n z _).mono ?_; rintro e w1 ⟨rfl, hb1⟩; have h1 := isb_keep h hb1; have HB1 := Lib.hid hb1; have hs1 := hb1.size; clear hb1) | (go_at_call 60; refine (wstr_any B b _ _ _ h1 (by omega) (by omega)).mono ?_; rintro e w2 ⟨rfl, h2, hb2⟩))
  go_end0
  exact ⟨rfl, h2, (HB1.out.mono hBw).trans hb2⟩
theorem pcputK_any (B b : Nat) (bs : List Value) (n z : Int) (w : World) (h : Lib.BuilderAt 65 5 B b (.pointer (some ⟨b, 0, none⟩)) bs w) (hlen : bs.length + 8 ≤ 140737488355328) (hBw : B ≤ w.heap.size) :
    Calls Tryd.prog 58 #[.pointer (some ⟨b, 0, none⟩), .int .i64 n, .int .i64 z] w fun e w' => e = .returned (.tuple #[]) ∧ Lib.BuilderAt 65 5 B b (.pointer (some ⟨b, 0, none⟩)) (bs ++ Lib.strCells (putB n z)) w' ∧ Below B w w' ∧ Apart b w w' := by
  have hps := putB_size n z
  go_enter Tryd.func58, Tryd.ntmps58
  go_wp2_with (first | (go_at_call 74; refine (put_any n z _).mono ?_; rintro e w1 ⟨rfl, hb1⟩; have h1 := built_keep h hb1; have HB1 := Lib.hid hb1; have hs1 := hb1.size; clear hb1) | (go_at_call 60; refine (wstrK_any B b _ _ _ h1 (by omega) (by omega)).mono ?_; rintro e w2 ⟨rfl, h2, hb2, ha2⟩))
  go_end0
  exact ⟨rfl, h2, (HB1.out.mono hBw).trans hb2, (apart_below HB1.out).trans ha2⟩

theorem strC_app (a b : ByteArray) : Lib.strCells (a ++ b) = Lib.strCells a ++ Lib.strCells b := by unfold Lib.strCells; simp
/-- the bytes of one constant -/
def enc1 (c : Cn) : ByteArray :=
  if c.t = 1 then putB c.t 1 ++ psB c.s
  else if c.t = 3 then putB c.t 1 ++ putB c.n 4
  else if c.t = 5 then putB c.t 1 ++ putB c.n 8
  else if c.t = 7 ∨ c.t = 8 then putB c.t 1 ++ putB c.a 2
  else putB c.t 1 ++ (putB c.a 2 ++ putB c.b 2)

end Go.Proofs.YtfcefeepkpkcmaaDoor

/- PcOne -/
/- Layer 6: one constant's bytes in the reference. -/
namespace Go.Proofs.YtfcefeepkpkcmaaDoor
open Go.ChangeShapes Go.WideShapes Go.ChangeAt Go.RowKit Go.PlainAid
set_option linter.unusedSimpArgs false
set_option linter.unusedVariables false

theorem ap_nil (x : ByteArray) : x ++ (⟨#[]⟩ : ByteArray) = x := ByteArray.ext (by rw [ByteArray.data_append]; simp)
theorem ap_assoc (x y z : ByteArray) : x ++ y ++ z = x ++ (y ++ z) := ByteArray.ext (by simp [ByteArray.data_append, Array.append_assoc])
theorem psB_size (s : ByteArray) : (psB s).size ≤ s.size + 2 := by
  unfold psB
  split
  · rw [ByteArray.size_append, put2_size]; omega
  · rw [strOfNums_size]; simp
theorem e1_1 {c : Cn} (h : (c.t == 1) = true) : enc1 c = putB c.t 1 ++ psB c.s := by unfold enc1; rw [if_pos (eqT h)]
theorem e1_3 {c : Cn} (h : (c.t == 1) = false) (h3 : (c.t == 3) = true) : enc1 c = putB c.t 1 ++ putB c.n 4 := by unfold enc1; rw [if_neg (eqF h), if_pos (eqT h3)]
theorem e1_5 {c : Cn} (h : (c.t == 1) = false) (h3 : (c.t == 3) = false) (h5 : (c.t == 5) = true) : enc1 c = putB c.t 1 ++ putB c.n 8 := by unfold enc1; rw [if_neg (eqF h), if_neg (eqF h3), if_pos (eqT h5)]
theorem e1_7 {c : Cn} (h : (c.t == 1) = false) (h3 : (c.t == 3) = false) (h5 : (c.t == 5) = false) (h7 : (c.t == 7) = true ∨ (c.t == 8) = true) : enc1 c = putB c.t 1 ++ putB c.a 2 := by unfold enc1; rw [if_neg (eqF h), if_neg (eqF h3), if_neg (eqF h5), if_pos (h7.imp eqT eqT)]
theorem e1_m {c : Cn} (h : (c.t == 1) = false) (h3 : (c.t == 3) = false) (h5 : (c.t == 5) = false) (h7 : (c.t == 7) = false) (h8 : (c.t == 8) = false) : enc1 c = putB c.t 1 ++ (putB c.a 2 ++ putB c.b 2) := by
  unfold enc1; rw [if_neg (eqF h), if_neg (eqF h3), if_neg (eqF h5), if_neg]
  rintro (h9 | h9)
  · exact eqF h7 h9
  · exact eqF h8 h9

set_option maxRecDepth 100000 in
set_option maxHeartbeats 1000000 in
theorem one_any (t : Int) (s : ByteArray) (m a b : Int) (hs : s.size ≤ 2000000) (w : World) :
    Calls Tryd.prog 63 #[.agg #[.int .i64 t, .string s, .int .i64 m, .int .i64 a, .int .i64 b]] w fun e w' => e = .returned (.string (enc1 ⟨t, s, m, a, b⟩)) ∧ Below w.heap.size w w' := by
  have hB : Below w.heap.size w w := Below.refl _ _
  have s1 := putB_size t 1
  have s4 := putB_size m 4
  have s8 := putB_size m 8
  have sa := putB_size a 2
  have sb := putB_size b 2
  have ss := psB_size s
  have f1 : ¬ 9223372036854775807 < (putB t 1).size + (psB s).size := by omega
  have f2 : ¬ 9223372036854775807 < (putB t 1).size + (putB m 4).size := by omega
  have f3 : ¬ 9223372036854775807 < (putB t 1).size + (putB m 8).size := by omega
  have f4 : ¬ 9223372036854775807 < (putB t 1).size + (putB a 2).size := by omega
  have f5 : ¬ 9223372036854775807 < (putB t 1).size := by omega
  have f6 : ¬ 9223372036854775807 < (putB t 1).size + (putB a 2).size + (putB b 2).size := by omega
  clear s1 s4 s8 sa sb ss
  go_enter Tryd.func63, Tryd.ntmps63
  go_wp2_with (first | (go_at_call 62; refine (rput_any _ _ _).mono ?_; rintro e w1 ⟨rfl, hb1⟩; obtain ⟨hc1, hf1⟩ := bcell hb1; have hz1 := hb1.size; (try simp only [World.size_alloc, World.size_setCell] at hz1); (try have hza : w.heap.size < w1.heap.size := by omega); (try have hzb : w.heap.size + 1 < w1.heap.size := by omega); (try have hzc : w.heap.size + 1 + 1 < w1.heap.size := by omega); (try have hzd : wa.heap.size < w1.heap.size := by omega); (try replace hR := (hb1.block w.heap.size (by first | exact lt_heap hR | (have := lt_heap hR; simp; omega))).trans (by first | with_reducible exact hR | with_reducible exact laid_old hR)); replace hB := below_on (w := w) ((by repeat (first | with_reducible exact hB | with_reducible exact Below.refl _ _ | with_reducible refine below_al ?_ _ | with_reducible refine below_st ?_ (by first | exact Nat.le_refl _ | exact Nat.le_add_right _ _ | (simp; omega)) _))) hb1; clear hb1) | (go_at_call 77; refine (rputs_any s (by omega) _).mono ?_; rintro e w1 ⟨rfl, hb1⟩; obtain ⟨hc1, hf1⟩ := bcell hb1; have hz1 := hb1.size; (try simp only [World.size_alloc, World.size_setCell] at hz1); (try have hza : w.heap.size < w1.heap.size := by omega); (try have hzb : w.heap.size + 1 < w1.heap.size := by omega); (try have hzc : w.heap.size + 1 + 1 < w1.heap.size := by omega); (try have hzd : wa.heap.size < w1.heap.size := by omega); (try replace hR := (hb1.block w.heap.size (by first | exact lt_heap hR | (have := lt_heap hR; simp; omega))).trans (by first | with_reducible exact hR | with_reducible exact laid_old hR)); replace hB := below_on (w := w) ((by repeat (first | with_reducible exact hB | with_reducible exact Below.refl _ _ | with_reducible refine below_al ?_ _ | with_reducible refine below_st ?_ (by first | exact Nat.le_refl _ | exact Nat.le_add_right _ _ | (simp; omega)) _))) hb1; clear hb1))
  all_goals go_ret
  · exact ⟨ret_str (by show putB t 1 ++ psB s ++ (⟨#[]⟩ : ByteArray) ++ (⟨#[]⟩ : ByteArray) = _; rw [e1_1 (c := ⟨t, s, m, a, b⟩) (by assumption), ap_nil, ap_nil]), (by repeat (first | with_reducible exact hB | with_reducible exact Below.refl _ _ | with_reducible refine below_al ?_ _ | with_reducible refine below_st ?_ (by first | exact Nat.le_refl _ | exact Nat.le_add_right _ _ | (simp; omega)) _))⟩
  · exact ⟨ret_str (by show putB t 1 ++ putB m 4 ++ (⟨#[]⟩ : ByteArray) ++ (⟨#[]⟩ : ByteArray) = _; rw [e1_3 (c := ⟨t, s, m, a, b⟩) (by assumption) (by assumption), ap_nil, ap_nil]), (by repeat (first | with_reducible exact hB | with_reducible exact Below.refl _ _ | with_reducible refine below_al ?_ _ | with_reducible refine below_st ?_ (by first | exact Nat.le_refl _ | exact Nat.le_add_right _ _ | (simp; omega)) _))⟩
  · exact ⟨ret_str (by show putB t 1 ++ putB m 8 ++ (⟨#[]⟩ : ByteArray) ++ (⟨#[]⟩ : ByteArray) = _; rw [e1_5 (c := ⟨t, s, m, a, b⟩) (by assumption) (by assumption) (by assumption), ap_nil, ap_nil]), (by repeat (first | with_reducible exact hB | with_reducible exact Below.refl _ _ | with_reducible refine below_al ?_ _ | with_reducible refine below_st ?_ (by first | exact Nat.le_refl _ | exact Nat.le_add_right _ _ | (simp; omega)) _))⟩
  · exact ⟨ret_str (by show putB t 1 ++ putB a 2 ++ (⟨#[]⟩ : ByteArray) ++ (⟨#[]⟩ : ByteArray) = _; rw [e1_7 (c := ⟨t, s, m, a, b⟩) (by assumption) (by assumption) (by assumption) (Or.inl (by assumption)), ap_nil, ap_nil]), (by repeat (first | with_reducible exact hB | with_reducible exact Below.refl _ _ | with_reducible refine below_al ?_ _ | with_reducible refine below_st ?_ (by first | exact Nat.le_refl _ | exact Nat.le_add_right _ _ | (simp; omega)) _))⟩
  · exact ⟨ret_str (by show putB t 1 ++ putB a 2 ++ (⟨#[]⟩ : ByteArray) ++ (⟨#[]⟩ : ByteArray) = _; rw [e1_7 (c := ⟨t, s, m, a, b⟩) (by assumption) (by assumption) (by assumption) (Or.inr (by assumption)), ap_nil, ap_nil]), (by repeat (first | with_reducible exact hB | with_reducible exact Below.refl _ _ | with_reducible refine below_al ?_ _ | with_reducible refine below_st ?_ (by first | exact Nat.le_refl _ | exact Nat.le_add_right _ _ | (simp; omega)) _))⟩
  · exact ⟨ret_str (by show putB t 1 ++ (⟨#[]⟩ : ByteArray) ++ putB a 2 ++ putB b 2 = _; rw [e1_m (c := ⟨t, s, m, a, b⟩) (by assumption) (by assumption) (by assumption) (by assumption) (by assumption), ap_nil, ap_assoc]), (by repeat (first | with_reducible exact hB | with_reducible exact Below.refl _ _ | with_reducible refine below_al ?_ _ | with_reducible refine below_st ?_ (by first | exact Nat.le_refl _ | exact Nat.le_add_right _ _ | (simp; omega)) _))⟩

end Go.Proofs.YtfcefeepkpkcmaaDoor

/- PcEnc -/
/- Layer 6: Encode, in the package and in its reference. -/
namespace Go.Proofs.YtfcefeepkpkcmaaDoor
open Go.ChangeShapes Go.WideShapes Go.ChangeAt Go.RowKit Go.PlainAid
set_option linter.unusedSimpArgs false
set_option linter.unusedVariables false

def encP (n : Nat) (L : List Cn) : ByteArray := L.foldl (fun x c => x ++ enc1 c) (putB n 2)
def encS (L : List Cn) : ByteArray := if chE L = 0 then encP L.length L else ⟨#[]⟩
theorem enc_ok {L : List Cn} (h : chE L = 0) : encS L = encP L.length L := by unfold encS; rw [if_pos h]
theorem enc_bad {L : List Cn} (h : ¬ chE L = 0) : encS L = ⟨#[]⟩ := by unfold encS; rw [if_neg h]
theorem encP_snoc (n : Nat) (L : List Cn) (c : Cn) : encP n (L ++ [c]) = encP n L ++ enc1 c := by unfold encP; rw [List.foldl_append]; rfl
theorem encP_take {n k : Nat} {L : List Cn} {p : Cn} (h : L[k]? = some p) : encP n (L.take (k + 1)) = encP n (L.take k) ++ enc1 p := by
  rw [← encP_snoc]
  congr 1
  rw [List.take_add_one, h]; rfl
theorem enc1_size {c : Cn} (h : c.s.size ≤ 2000000) : (enc1 c).size ≤ 2000100 := by
  have s1 := putB_size c.t 1
  have s4 := putB_size c.n 4
  have s8 := putB_size c.n 8
  have sa := putB_size c.a 2
  have sb := putB_size c.b 2
  have ss := psB_size c.s
  unfold enc1
  repeat' split
  all_goals (simp only [ByteArray.size_append]; omega)
theorem encP_size {L : List Cn} (h : Short L) (n : Nat) : (encP n L).size ≤ 8 + 2000100 * L.length := by
  have key : ∀ (L : List Cn) (x : ByteArray), Short L → (L.foldl (fun x c => x ++ enc1 c) x).size ≤ x.size + 2000100 * L.length := by
    intro L
    induction L with
    | nil => intro x _; simp
    | cons c r ih =>
      intro x hx
      have h1 := ih (x ++ enc1 c) (fun d hd => hx d (List.mem_cons_of_mem _ hd))
      have h2 := enc1_size (hx c List.mem_cons_self)
      rw [ByteArray.size_append] at h1
      simp only [List.foldl_cons, List.length_cons]
      omega
  have := key L (putB n 2) h
  have := putB_size n 2
  unfold encP
  omega
theorem short_take {L : List Cn} (h : Short L) (k : Nat) : Short (L.take k) := fun c hc => h c (List.mem_of_mem_take hc)

set_option maxRecDepth 100000 in
set_option maxHeartbeats 1000000 in
theorem renc_any {w0 : World} {A : Option Addr} {n c : Nat} {L : List Cn} (hS : Short L) (hn : L.length = n) (hN : n ≤ 100000) (hp : Pool w0 w0.heap.size A L) (w : World) (hb : Below w0.heap.size w0 w) :
    Calls Tryd.prog 43 #[.slice A n c] w fun e w' => e = .returned (.tuple #[.string (encS L), .int .i64 (chE L)]) ∧ Below w.heap.size w w' := by
  have HP := Lib.hid (hp.up hb)
  have HN := Lib.hid hn
  clear hp hb hn
  have hB : Below w.heap.size w w := Below.refl _ _
  cases hE : (chE L != 0) with
  | true =>
    have g := enc_bad (bneT hE)
    go_enter Tryd.func43, Tryd.ntmps43
    go_wp2_with (go_at_call 27; refine (rcheck_any hS HN.out hN HP.out _ (by repeat (first | with_reducible exact hB | with_reducible exact Below.refl _ _ | with_reducible refine below_al ?_ _ | with_reducible refine below_st ?_ (by first | exact Nat.le_refl _ | exact Nat.le_add_right _ _ | (simp; omega)) _))).mono ?_; rintro e w1 ⟨rfl, hb1⟩; obtain ⟨hc1, hf1⟩ := bcell hb1; have hz1 := hb1.size; (try simp only [World.size_alloc, World.size_setCell] at hz1); (try have hza : w.heap.size < w1.heap.size := by omega); (try have hzb : w.heap.size + 1 < w1.heap.size := by omega); (try have hzc : w.heap.size + 1 + 1 < w1.heap.size := by omega); (try have hzd : wa.heap.size < w1.heap.size := by omega); (try replace hR := (hb1.block w.heap.size (by first | exact lt_heap hR | (have := lt_heap hR; simp; omega))).trans (by first | with_reducible exact hR | with_reducible exact laid_old hR)); replace hB := below_on (w := w) ((by repeat (first | with_reducible exact hB | with_reducible exact Below.refl _ _ | with_reducible refine below_al ?_ _ | with_reducible refine below_st ?_ (by first | exact Nat.le_refl _ | exact Nat.le_add_right _ _ | (simp; omega)) _))) hb1; clear hb1)
    go_ret2
    exact ⟨by rw [g]; rfl, (by repeat (first | with_reducible exact hB | with_reducible exact Below.refl _ _ | with_reducible refine below_al ?_ _ | with_reducible refine below_st ?_ (by first | exact Nat.le_refl _ | exact Nat.le_add_right _ _ | (simp; omega)) _))⟩
  | false =>
    have g := Lib.hid (enc_ok (bneF hE))
    have hl := (ch_zero (bneF hE)).1
    have h0 := bneF hE
    go_enter Tryd.func43, Tryd.ntmps43
    go_wp2_with (first | (go_at_call 27; refine (rcheck_any hS HN.out hN HP.out _ (by repeat (first | with_reducible exact hB | with_reducible exact Below.refl _ _ | with_reducible refine below_al ?_ _ | with_reducible refine below_st ?_ (by first | exact Nat.le_refl _ | exact Nat.le_add_right _ _ | (simp; omega)) _))).mono ?_; rintro e w1 ⟨rfl, hb1⟩; obtain ⟨hc1, hf1⟩ := bcell hb1; have hz1 := hb1.size; (try simp only [World.size_alloc, World.size_setCell] at hz1); (try have hza : w.heap.size < w1.heap.size := by omega); (try have hzb : w.heap.size + 1 < w1.heap.size := by omega); (try have hzc : w.heap.size + 1 + 1 < w1.heap.size := by omega); (try have hzd : wa.heap.size < w1.heap.size := by omega); (try replace hR := (hb1.block w.heap.size (by first | exact lt_heap hR | (have := lt_heap hR; simp; omega))).trans (by first | with_reducible exact hR | with_reducible exact laid_old hR)); replace hB := below_on (w := w) ((by repeat (first | with_reducible exact hB | with_reducible exact Below.refl _ _ | with_reducible refine below_al ?_ _ | with_reducible refine below_st ?_ (by first | exact Nat.le_refl _ | exact Nat.le_add_right _ _ | (simp; omega)) _))) hb1; clear hb1) | (go_at_call 62; refine (rput_any _ _ _).mono ?_; rintro e w1 ⟨rfl, hb1⟩; obtain ⟨hc1, hf1⟩ := bcell hb1; have hz1 := hb1.size; (try simp only [World.size_alloc, World.size_setCell] at hz1); (try have hza : w.heap.size < w1.heap.size := by omega); (try have hzb : w.heap.size + 1 < w1.heap.size := by omega); (try have hzc : w.heap.size + 1 + 1 < w1.heap.size := by omega); (try have hzd : wa.heap.size < w1.heap.size := by omega); (try replace hR := (hb1.block w.heap.size (by first | exact lt_heap hR | (have := lt_heap hR; simp; omega))).trans (by first | with_reducible exact hR | with_reducible exact laid_old hR)); replace hB := below_on (w := w) ((by repeat (first | with_reducible exact hB | with_reducible exact Below.refl _ _ | with_reducible refine below_al ?_ _ | with_reducible refine below_st ?_ (by first | exact Nat.le_refl _ | exact Nat.le_add_right _ _ | (simp; omega)) _))) hb1; clear hb1))
    go_loopw [6, 8] (fun s i wr => ∃ k : Nat, k ≤ n ∧ i = .int .i64 k ∧ s = .string (encP n (L.take k)) ∧ Below w.heap.size w wr) (fun _ i _ => n - (intOf i).toNat)
    case atStart => exact ⟨0, Nat.zero_le _, rfl, rfl, hB⟩
    case round =>
      obtain ⟨k, hk, rfl, rfl, hBr⟩ := hrel
      by_cases hlt : k < n
      · have hp : ∃ p, L[k]? = some p := ⟨L[k]'(by rw [HN.out]; exact hlt), List.getElem?_eq_getElem _⟩
        obtain ⟨p, hp⟩ := hp
        have HPW := Lib.hid (HP.out.up hBr)
        rcases HPW.out with h0 | ⟨b, o, rfl, hg, hcell⟩
        · rw [h0] at hp; cases hp
        · obtain ⟨a0, a1, a2, a3, a4⟩ := hcell k _ hp
          have hsz := encP_size (short_take hS k) n
          have hle : (L.take k).length ≤ 1000 := by rw [List.length_take]; omega
          have hps := hS p (List.mem_of_getElem? hp)
          have h1s := enc1_size hps
          have hfit : ¬ 9223372036854775807 < (encP n (L.take k)).size + (enc1 p).size := by omega
          have hk0 : (0 : Int) ≤ (k : Int) := by omega
          have hk1 : (k : Int) < (n : Int) := by omega
          have HPK := Lib.hid hp
          clear hcell hp hsz hle h1s
          go_wp2_with (go_at_call 63; refine (one_any p.t p.s p.n p.a p.b hps _).mono ?_; rintro e w2 ⟨rfl, hb2⟩; replace hBr := below_on (w := w) hBr hb2; clear hb2)
          go_roundw
          case rel => exact ⟨k + 1, by omega, by go_num, by rw [encP_take HPK.out], hBr⟩
          case measure => simp [intOf]; omega
      · obtain rfl : k = n := by omega
        go_wp2
        go_ret2
        exact ⟨by rw [g.out, HN.out, h0, List.take_of_length_le (by rw [HN.out]; exact Nat.le_refl _)]; rfl, hBr⟩

set_option maxRecDepth 100000 in
set_option maxHeartbeats 1000000 in
theorem enc_any {w0 : World} {A : Option Addr} {n c : Nat} {L : List Cn} (hS : Short L) (hn : L.length = n) (hN : n ≤ 100000) (hp : Pool w0 w0.heap.size A L) (w : World) (hb : Below w0.heap.size w0 w) :
    Calls Tryd.prog 42 #[.slice A n c] w fun e w' => e = .returned (.tuple #[.string (encS L), .int .i64 (chE L)]) ∧ Below w.heap.size w w' := by
  have HP := Lib.hid (hp.up hb)
  have HN := Lib.hid hn
  clear hp hb hn
  have hB : Below w.heap.size w w := Below.refl _ _
  cases hE : (chE L != 0) with
  | true =>
    have g := enc_bad (bneT hE)
    go_enter Tryd.func42, Tryd.ntmps42
    go_wp2_with (go_at_call 26; refine (check_any hS.fits HN.out hN HP.out _ (by repeat (first | with_reducible exact hB | with_reducible exact Below.refl _ _ | with_reducible refine below_al ?_ _ | with_reducible refine below_st ?_ (by first | exact Nat.le_refl _ | exact Nat.le_add_right _ _ | (simp; omega)) _))).mono ?_; rintro e w1 ⟨rfl, hb1⟩; obtain ⟨hc1, hf1⟩ := bcell hb1; have hz1 := hb1.size; (try simp only [World.size_alloc, World.size_setCell] at hz1); (try have hza : w.heap.size < w1.heap.size := by omega); (try have hzb : w.heap.size + 1 < w1.heap.size := by omega); (try have hzc : w.heap.size + 1 + 1 < w1.heap.size := by omega); (try have hzd : wa.heap.size < w1.heap.size := by omega); (try replace hR := (hb1.block w.heap.size (by first | exact lt_heap hR | (have := lt_heap hR; simp; omega))).trans (by first | with_reducible exact hR | with_reducible exact laid_old hR)); replace hB := below_on (w := w) ((by repeat (first | with_reducible exact hB | with_reducible exact Below.refl _ _ | with_reducible refine below_al ?_ _ | with_reducible refine below_st ?_ (by first | exact Nat.le_refl _ | exact Nat.le_add_right _ _ | (simp; omega)) _))) hb1; clear hb1)
    go_ret2
    exact ⟨by rw [g]; rfl, (by repeat (first | with_reducible exact hB | with_reducible exact Below.refl _ _ | with_reducible refine below_al ?_ _ | with_reducible refine below_st ?_ (by first | exact Nat.le_refl _ | exact Nat.le_add_right _ _ | (simp; omega)) _))⟩
  | false =>
    have g := Lib.hid (enc_ok (bneF hE))
    have hl := (ch_zero (bneF hE)).1
    have h0 := bneF hE
    go_enter Tryd.func42, Tryd.ntmps42
    go_wp2_with (first | (go_at_call 26; refine (check_any hS.fits HN.out hN HP.out _ hB).mono ?_; rintro e w1 ⟨rfl, hb1⟩; replace hB := below_on (w := w) hB hb1; clear hb1) | (go_at_call 58; refine (pcput_any w1.heap.size w1.heap.size [] _ _ _ (Lib.fresh_isBuilder _ _ w1) (by decide) (by simp)).mono ?_; rintro e w2 ⟨rfl, hbl, hb2⟩))
    have hB1 : Below w1.heap.size w1 w2 := ((Below.refl w1.heap.size w1).alloc (Nat.le_refl _) _).trans hb2
    have HBL := Lib.hid hbl
    rw [List.nil_append] at HBL
    clear hbl hb2
    go_loopw [24] (fun i wr => ∃ k : Nat, k ≤ n ∧ i = .int .i64 k ∧ Lib.BuilderAt 65 5 w1.heap.size w1.heap.size (.pointer (some ⟨w1.heap.size, 0, none⟩)) (Lib.strCells (encP n (L.take k))) wr ∧ Below w1.heap.size w1 wr) (fun i _ => n - (intOf i).toNat)
    case atStart => exact ⟨0, Nat.zero_le _, rfl, HBL.out, hB1⟩
    case round =>
      obtain ⟨k, hk, rfl, hbl, hBr⟩ := hrel
      by_cases hlt : k < n
      · have hp : ∃ p, L[k]? = some p := ⟨L[k]'(by rw [HN.out]; exact hlt), List.getElem?_eq_getElem _⟩
        obtain ⟨p, hp⟩ := hp
        have HPW := Lib.hid (HP.out.up (below_on hB hBr))
        rcases HPW.out with h0 | ⟨b, o, rfl, hg, hcell⟩
        · rw [h0] at hp; cases hp
        · obtain ⟨a0, a1, a2, a3, a4⟩ := hcell k _ hp
          have hsz := encP_size (short_take hS k) n
          have hle : (L.take k).length ≤ 1000 := by rw [List.length_take]; omega
          have hps := hS p (List.mem_of_getElem? hp)
          have zz : (encP n (L.take k)).size ≤ 2000200000 := by omega
          have ss := psB_size p.s
          have s1 := putB_size p.t 1
          have sa := putB_size p.a 2
          have hk0 : (0 : Int) ≤ (k : Int) := by omega
          have hk1 : (k : Int) < (n : Int) := by omega
          have HPK := Lib.hid hp
          clear hcell hp hsz hle
          go_upto_region 9 with fail
          have hkb : wr.heap.size ≠ w1.heap.size := by have := hbl.lt; omega
          have hbl0 := built_keep hbl (below_al (Below.refl _ _) (.cells #[.int .i64 p.t, .string p.s, .int .i64 p.n, .int .i64 p.a, .int .i64 p.b] 26))
          have hBB : Below w1.heap.size w1 (wr.alloc (.cells #[.int .i64 p.t, .string p.s, .int .i64 p.n, .int .i64 p.a, .int .i64 p.b] 26)) := hBr.alloc hBr.size _
          have kc : (wr.alloc (.cells #[.int .i64 p.t, .string p.s, .int .i64 p.n, .int .i64 p.a, .int .i64 p.b] 26)).heap[wr.heap.size]? = some (.cells #[.int .i64 p.t, .string p.s, .int .i64 p.n, .int .i64 p.a, .int .i64 p.b] 26) := World.alloc_heap_new wr _
          clear a0 a1 a2 a3 a4
          generalize wr.alloc (.cells #[.int .i64 p.t, .string p.s, .int .i64 p.n, .int .i64 p.a, .int .i64 p.b] 26) = W2 at hbl0 hBB kc ⊢
          replace hbl := hbl0
          clear hbl0 hBr HPW
          obtain ⟨c0, c1, c2, c3, c4, q0, q1, q2, q3, q4⟩ := five_cells kc
          go_wp2_with (first | (go_at_call 58; refine (pcputK_any w1.heap.size w1.heap.size _ _ _ _ hbl (by simp only [List.length_append, Lib.strCells_length]; omega) (by have := hBB.size; omega)).mono ?_; rintro e w3 ⟨rfl, hbl2, hbx, ha⟩; replace kc := ha _ _ _ _ hkb (by decide) kc; obtain ⟨c0, c1, c2, c3, c4, q0, q1, q2, q3, q4⟩ := five_cells kc; replace hbl := hbl2; replace hBB := hBB.trans hbx; clear ha hbx) | (go_at_call 59; refine (puts_any p.s (by omega) _).mono ?_; rintro e w3 ⟨rfl, hbx⟩; replace kc := (hbx.block _ (lt_heap kc)).trans kc; obtain ⟨c0, c1, c2, c3, c4, q0, q1, q2, q3, q4⟩ := five_cells kc; replace hbl := built_keep hbl hbx; replace hBB := hBB.trans (hbx.mono hBB.size); clear hbx) | (go_at_call 60; refine (wstrK_any w1.heap.size w1.heap.size _ _ _ hbl (by simp only [List.length_append, Lib.strCells_length]; omega) (by have := hBB.size; omega)).mono ?_; rintro e w3 ⟨rfl, hbl2, hbx, ha⟩; replace hbl := hbl2; replace hBB := hBB.trans hbx; clear ha hbx))
          · have e9 := e1_1 (c := p) (by assumption)
            go_roundw
            case rel => exact ⟨k + 1, by omega, by go_num, by rw [encP_take HPK.out, e9]; simpa only [strC_app, List.append_assoc] using hbl, hBB⟩
            case measure => simp [intOf]; omega
          · have e9 := e1_3 (c := p) (by assumption) (by assumption)
            go_roundw
            case rel => exact ⟨k + 1, by omega, by go_num, by rw [encP_take HPK.out, e9]; simpa only [strC_app, List.append_assoc] using hbl, hBB⟩
            case measure => simp [intOf]; omega
          · have e9 := e1_5 (c := p) (by assumption) (by assumption) (by assumption)
            go_roundw
            case rel => exact ⟨k + 1, by omega, by go_num, by rw [encP_take HPK.out, e9]; simpa only [strC_app, List.append_assoc] using hbl, hBB⟩
            case measure => simp [intOf]; omega
          · have e9 := e1_7 (c := p) (by assumption) (by assumption) (by assumption) (Or.inl (by assumption))
            go_roundw
            case rel => exact ⟨k + 1, by omega, by go_num, by rw [encP_take HPK.out, e9]; simpa only [strC_app, List.append_assoc] using hbl, hBB⟩
            case measure => simp [intOf]; omega
          · have e9 := e1_7 (c := p) (by assumption) (by assumption) (by assumption) (Or.inr (by assumption))
            go_roundw
            case rel => exact ⟨k + 1, by omega, by go_num, by rw [encP_take HPK.out, e9]; simpa only [strC_app, List.append_assoc] using hbl, hBB⟩
            case measure => simp [intOf]; omega
          · have e9 := e1_m (c := p) (by assumption) (by assumption) (by assumption) (by assumption) (by assumption)
            go_roundw
            case rel => exact ⟨k + 1, by omega, by go_num, by rw [encP_take HPK.out, e9]; simpa only [strC_app, List.append_assoc] using hbl, hBB⟩
            case measure => simp [intOf]; omega
      · obtain rfl : k = n := by omega
        go_wp2_with (go_at_call 61; refine (Tryd.Builder_String_any w1.heap.size w1.heap.size (encP k (L.take k)).data.toList _ (Or.inr hbl) hBr.size).mono ?_; rintro e w5 ⟨rfl, hb5⟩)
        go_ret2
        exact ⟨by rw [g.out, HN.out, h0]; rw [show (⟨(encP k (L.take k)).data.toList.toArray⟩ : ByteArray) = encP k L from by rw [List.take_of_length_le (by rw [HN.out]; exact Nat.le_refl _)]]; rfl, hB.trans ((hBr.trans hb5).mono hB.size)⟩

end Go.Proofs.YtfcefeepkpkcmaaDoor
