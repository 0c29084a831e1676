import Derived.Test.YthfegbhbokhlkaaGreatDoorBuild
import Derived.Test.YthfegbhbokhlkaaGreatDoorOctM
import Derived.Test.YthfegbhbokhlkaaGreatDoorPoolCheck
import Derived.Test.YthfegbhbokhlkaaGreatDoorPoolValid
import Derived.Test.YthfegbhbokhlkaaGreatDoorPoolCk

/- PcPut -/
/- Layer 6: a builder that leaves other variables alone; put; one constant's bytes. -/
namespace Go.Proofs.YthfegbhbokhlkaaGreatDoor
open Go.ChangeShapes Go.WideShapes Go.ChangeAt Go.RowKit Go.PlainAid
set_option linter.unusedSimpArgs false
set_option linter.unusedVariables false

/-- every other variable, of a type of its own, is as it was -/
def Apart (b : Nat) (w w' : World) : Prop := ∀ k cs t fr, k ≠ b → t ≠ 5 → w.heap[k]? = some (.cells cs t fr) → w'.heap[k]? = some (.cells cs t fr)
theorem Apart.trans {b : Nat} {w w1 w2 : World} (h : Apart b w w1) (k : Apart b w1 w2) : Apart b w w2 := fun i cs t fr hi ht hh => k i cs t fr hi ht (h i cs t fr hi ht hh)
theorem apart_below {b : Nat} {w w1 : World} (h : Below w.heap.size w w1) : Apart b w w1 := fun k cs t fr _ _ hh => (h.block k (lt_heap hh)).trans hh
theorem own_not {w : World} {B e n k t : Nat} {v : Value} {xs : List Value} {cs : Array Value} {fr : Nat × Nat} (h : w.ownsRow B e 1 v n xs) (hk : w.heap[k]? = some (.cells cs t fr)) (ht : t ≠ e) : v.ownBlock ≠ some k := by
  intro hv
  rcases h.2 with ⟨rfl, _⟩ | ⟨g, cap, cur, rfl, _, hg, _⟩
  · cases hv
  · have : g = k := Option.some.inj hv
    subst this
    rw [hg] at hk
    have := Option.some.inj hk
    injection this with _ h2 _
    exact ht h2.symm
theorem built_keep {B b : Nat} {p : Value} {bs : List Value} {w w' : World} (h : Lib.BuilderAt 44 5 B b p bs w) (hb : Below w.heap.size w w') : Lib.BuilderAt 44 5 B b p bs w' := by
  have hlt := h.lt
  obtain ⟨h1, v, h2, h3, h4⟩ := h
  exact ⟨h1, v, (hb.block b hlt).trans h2, owns_below h3 hb, h4⟩
theorem isb_keep {B b : Nat} {bs : List Value} {w w' : World} (h : Lib.IsBuilder 44 5 B b bs w) (hb : Below w.heap.size w w') : Lib.IsBuilder 44 5 B b bs w' := h.imp (fun h => built_keep h hb) (fun h => built_keep h hb)

set_option maxRecDepth 100000 in
set_option maxHeartbeats 1000000 in
theorem wstrK_any (B b : Nat) (bs : List Value) (s : ByteArray) (w : World) (h : Lib.BuilderAt 44 5 B b (.pointer (some ⟨b, 0, none⟩)) bs w) (hlen : bs.length + s.size ≤ 140737488355328) (hBw : B ≤ w.heap.size) :
    Calls Tryz.prog 16 #[.pointer (some ⟨b, 0, none⟩), .string s] w fun e w' => e = .returned (.tuple #[.int .i64 s.size, .nilIface]) ∧ Lib.BuilderAt 44 5 B b (.pointer (some ⟨b, 0, none⟩)) (bs ++ Lib.strCells s) w' ∧ Below B w w' ∧ Apart b w w' := by
  obtain ⟨i0, hi, hz0, hz1, hz2⟩ := info_parts ibyte
  obtain ⟨hB, v, hbk, hown, hne, d0, d1, hlt⟩ := built_parts h
  have HBK := Lib.hid hbk
  clear hbk
  go_enter Tryz.func16, Tryz.ntmps16
  go_wp2_with (first | (go_at_call 47; refine (check_used b _ h.cell0).mono ?_; rintro e w1 ⟨rfl, rfl⟩) | (at_builtin; refine Lib.wpList_append_own_string _ rfl _ _ 42 9 rfl B 5 i0 Tryz.underlying42 Tryz.underlying9 hi hz0 hz1 hz2 v bs.length bs rfl hown s rfl ?c3 ?c4 ?c5 ?_))
  case c3 => unfold maxLen; omega
  case c4 => omega
  case c5 => omega
  intro v' w2 hown2 hgrow _
  have k2 : w2.heap[b]? = some (.cells #[.pointer (some ⟨b, 0, none⟩), v] 44 (0, 0)) := by
    rw [hgrow.block b hlt (fun e => hne e.symm)]
    exact HBK.out
  have e0 : w2.cell? ⟨b, 0, none⟩ = some (.pointer (some ⟨b, 0, none⟩)) := by rw [Lib.cell_of_heap k2]; rfl
  have e1 : w2.cell? ⟨b, 1, none⟩ = some v := by rw [Lib.cell_of_heap k2]; rfl
  have f1 : w2.frozen? ⟨b, 1, none⟩ = false := Lib.frozen_of_heap k2 1
  obtain ⟨ao, n', cap, rfl⟩ : ∃ ao n' cap, v' = .slice ao n' cap := by
    rcases hown2.2 with ⟨hv, _⟩ | ⟨g, cap, cur, hv, _⟩
    · exact ⟨_, _, _, hv⟩
    · exact ⟨_, _, _, hv⟩
  have K2 := Lib.hid k2
  have hr : ∀ k, v.ownBlock = some k → B ≤ k := fun k hk => (hown.lt k hk).1
  have HB := Lib.hid (((Below.refl B w).grown hgrow (by omega) hr).setCell (p := ⟨b, 1, none⟩) hB (.slice ao n' cap))
  have HA : Apart b w (w2.setCell ⟨b, 1, none⟩ (.slice ao n' cap)) := by
    intro k cs t fr hk ht hh
    rw [Below.heap_setCell _ _ _ _ hk, hgrow.block k (lt_heap hh) (fun e => own_not hown hh ht e.symm)]
    exact hh
  have HAH := Lib.hid HA
  have HO := Lib.hid hown2
  clear k2 hgrow hown2 hr HA hown
  go_wp2
  go_ret2
  exact ⟨rfl, Lib.BuilderAt.put (T := 44) (e := 5) hB K2.out (bs' := bs ++ Lib.strCells s) (by simpa [Lib.strCells_length] using HO.out) (by decide), HB.out, HAH.out⟩

theorem putB_size (n z : Int) : (putB n z).size ≤ 8 := by
  unfold putB
  split
  · rename_i h
    have hl := putL_len n z h.1
    have : (strOfNums (putL n z)).size = (putL n z).length := strOfNums_size _
    rw [this, hl]
    rcases h.1 with rfl | rfl | rfl | rfl <;> decide
  · rw [strOfNums_size]; decide
theorem pcput_any (B b : Nat) (bs : List Value) (n z : Int) (w : World) (h : Lib.IsBuilder 44 5 B b bs w) (hlen : bs.length + 8 ≤ 140737488355328) (hBw : B ≤ w.heap.size) :
    Calls Tryz.prog 43 #[.pointer (some ⟨b, 0, none⟩), .int .i64 n, .int .i64 z] w fun e w' => e = .returned (.tuple #[]) ∧ Lib.BuilderAt 44 5 B b (.pointer (some ⟨b, 0, none⟩)) (bs ++ Lib.strCells (putB n z)) w' ∧ Below B w w' := by
  have hps := putB_size n z
  go_enter Tryz.func43, Tryz.ntmps43
  go_wp2_with (first | (go_at_call 48; refine (put_any n z _).mono ?_; rintro e w1 ⟨rfl, hb1⟩; have h1 := isb_keep h hb1; have HB1 := Lib.hid hb1; have hs1 := hb1.size; clear hb1) | (go_at_call 16; refine (wstr_any B b _ _ _ h1 (by omega) (by omega)).mono ?_; rintro e w2 ⟨rfl, h2, hb2⟩))
  go_end0
  exact ⟨rfl, h2, (HB1.out.mono hBw).trans hb2⟩
theorem pcputK_any (B b : Nat) (bs : List Value) (n z : Int) (w : World) (h : Lib.BuilderAt 44 5 B b (.pointer (some ⟨b, 0, none⟩)) bs w) (hlen : bs.length + 8 ≤ 140737488355328) (hBw : B ≤ w.heap.size) :
    Calls Tryz.prog 43 #[.pointer (some ⟨b, 0, none⟩), .int .i64 n, .int .i64 z] w fun e w' => e = .returned (.tuple #[]) ∧ Lib.BuilderAt 44 5 B b (.pointer (some ⟨b, 0, none⟩)) (bs ++ Lib.strCells (putB n z)) w' ∧ Below B w w' ∧ Apart b w w' := by
  have hps := putB_size n z
  go_enter Tryz.func43, Tryz.ntmps43
  go_wp2_with (first | (go_at_call 48; refine (put_any n z _).mono ?_; rintro e w1 ⟨rfl, hb1⟩; have h1 := built_keep h hb1; have HB1 := Lib.hid hb1; have hs1 := hb1.size; clear hb1) | (go_at_call 16; refine (wstrK_any B b _ _ _ h1 (by omega) (by omega)).mono ?_; rintro e w2 ⟨rfl, h2, hb2, ha2⟩))
  go_end0
  exact ⟨rfl, h2, (HB1.out.mono hBw).trans hb2, (apart_below HB1.out).trans ha2⟩

theorem strC_app (a b : ByteArray) : Lib.strCells (a ++ b) = Lib.strCells a ++ Lib.strCells b := by unfold Lib.strCells; simp
/-- the bytes of one constant -/
def enc1 (c : Cn) : ByteArray :=
  if c.t = 1 then putB c.t 1 ++ psB c.s
  else if c.t = 3 then putB c.t 1 ++ putB c.n 4
  else if c.t = 5 then putB c.t 1 ++ putB c.n 8
  else if c.t = 7 ∨ c.t = 8 then putB c.t 1 ++ putB c.a 2
  else putB c.t 1 ++ (putB c.a 2 ++ putB c.b 2)

end Go.Proofs.YthfegbhbokhlkaaGreatDoor

/- PcOne -/
/- Layer 6: one constant's bytes in the reference. -/
namespace Go.Proofs.YthfegbhbokhlkaaGreatDoor
open Go.ChangeShapes Go.WideShapes Go.ChangeAt Go.RowKit Go.PlainAid
set_option linter.unusedSimpArgs false
set_option linter.unusedVariables false

theorem ap_nil (x : ByteArray) : x ++ (⟨#[]⟩ : ByteArray) = x := ByteArray.ext (by rw [ByteArray.data_append]; simp)
theorem ap_assoc (x y z : ByteArray) : x ++ y ++ z = x ++ (y ++ z) := ByteArray.ext (by simp [ByteArray.data_append, Array.append_assoc])
theorem psB_size (s : ByteArray) : (psB s).size ≤ s.size + 2 := by
  unfold psB
  split
  · rw [ByteArray.size_append, put2_size]; omega
  · rw [strOfNums_size]; simp
theorem e1_1 {c : Cn} (h : (c.t == 1) = true) : enc1 c = putB c.t 1 ++ psB c.s := by unfold enc1; rw [if_pos (eqT h)]
theorem e1_3 {c : Cn} (h : (c.t == 1) = false) (h3 : (c.t == 3) = true) : enc1 c = putB c.t 1 ++ putB c.n 4 := by unfold enc1; rw [if_neg (eqF h), if_pos (eqT h3)]
theorem e1_5 {c : Cn} (h : (c.t == 1) = false) (h3 : (c.t == 3) = false) (h5 : (c.t == 5) = true) : enc1 c = putB c.t 1 ++ putB c.n 8 := by unfold enc1; rw [if_neg (eqF h), if_neg (eqF h3), if_pos (eqT h5)]
theorem e1_7 {c : Cn} (h : (c.t == 1) = false) (h3 : (c.t == 3) = false) (h5 : (c.t == 5) = false) (h7 : (c.t == 7) = true ∨ (c.t == 8) = true) : enc1 c = putB c.t 1 ++ putB c.a 2 := by unfold enc1; rw [if_neg (eqF h), if_neg (eqF h3), if_neg (eqF h5), if_pos (h7.imp eqT eqT)]
theorem e1_m {c : Cn} (h : (c.t == 1) = false) (h3 : (c.t == 3) = false) (h5 : (c.t == 5) = false) (h7 : (c.t == 7) = false) (h8 : (c.t == 8) = false) : enc1 c = putB c.t 1 ++ (putB c.a 2 ++ putB c.b 2) := by
  unfold enc1; rw [if_neg (eqF h), if_neg (eqF h3), if_neg (eqF h5), if_neg]
  rintro (h9 | h9)
  · exact eqF h7 h9
  · exact eqF h8 h9

set_option maxRecDepth 100000 in
set_option maxHeartbeats 1000000 in
theorem one_any (t : Int) (s : ByteArray) (m a b : Int) (hs : s.size ≤ 2000000) (w : World) :
    Calls Tryz.prog 51 #[.agg #[.int .i64 t, .string s, .int .i64 m, .int .i64 a, .int .i64 b]] w fun e w' => e = .returned (.string (enc1 ⟨t, s, m, a, b⟩)) ∧ Below w.heap.size w w' := by
  have hB : Below w.heap.size w w := Below.refl _ _
  have s1 := putB_size t 1
  have s4 := putB_size m 4
  have s8 := putB_size m 8
  have sa := putB_size a 2
  have sb := putB_size b 2
  have ss := psB_size s
  have f1 : ¬ 9223372036854775807 < (putB t 1).size + (psB s).size := by omega
  have f2 : ¬ 9223372036854775807 < (putB t 1).size + (putB m 4).size := by omega
  have f3 : ¬ 9223372036854775807 < (putB t 1).size + (putB m 8).size := by omega
  have f4 : ¬ 9223372036854775807 < (putB t 1).size + (putB a 2).size := by omega
  have f5 : ¬ 9223372036854775807 < (putB t 1).size := by omega
  have f6 : ¬ 9223372036854775807 < (putB t 1).size + (putB a 2).size + (putB b 2).size := by omega
  clear s1 s4 s8 sa sb ss
  go_enter Tryz.func51, Tryz.ntmps51
  go_wp2_with (first | (go_at_call 50; refine (rput_any _ _ _).mono ?_; rintro e w1 ⟨rfl, hb1⟩; obtain ⟨hc1, hf1⟩ := bcell hb1; have hz1 := hb1.size; (try simp only [World.size_alloc, World.size_setCell] at hz1); (try have hza : w.heap.size < w1.heap.size := by omega); (try have hzb : w.heap.size + 1 < w1.heap.size := by omega); (try have hzc : w.heap.size + 1 + 1 < w1.heap.size := by omega); (try have hzd : wa.heap.size < w1.heap.size := by omega); (try replace hR := (hb1.block w.heap.size (by first | exact lt_heap hR | (have := lt_heap hR; simp; omega))).trans (by first | with_reducible exact hR | with_reducible exact laid_old hR)); replace hB := below_on (w := w) ((by repeat (first | with_reducible exact hB | with_reducible exact Below.refl _ _ | with_reducible refine below_al ?_ _ | with_reducible refine below_st ?_ (by first | exact Nat.le_refl _ | exact Nat.le_add_right _ _ | (simp; omega)) _))) hb1; clear hb1) | (go_at_call 64; refine (rputs_any s (by omega) _).mono ?_; rintro e w1 ⟨rfl, hb1⟩; obtain ⟨hc1, hf1⟩ := bcell hb1; have hz1 := hb1.size; (try simp only [World.size_alloc, World.size_setCell] at hz1); (try have hza : w.heap.size < w1.heap.size := by omega); (try have hzb : w.heap.size + 1 < w1.heap.size := by omega); (try have hzc : w.heap.size + 1 + 1 < w1.heap.size := by omega); (try have hzd : wa.heap.size < w1.heap.size := by omega); (try replace hR := (hb1.block w.heap.size (by first | exact lt_heap hR | (have := lt_heap hR; simp; omega))).trans (by first | with_reducible exact hR | with_reducible exact laid_old hR)); replace hB := below_on (w := w) ((by repeat (first | with_reducible exact hB | with_reducible exact Below.refl _ _ | with_reducible refine below_al ?_ _ | with_reducible refine below_st ?_ (by first | exact Nat.le_refl _ | exact Nat.le_add_right _ _ | (simp; omega)) _))) hb1; clear hb1))
  all_goals go_ret
  · exact ⟨ret_str (by show putB t 1 ++ psB s ++ (⟨#[]⟩ : ByteArray) ++ (⟨#[]⟩ : ByteArray) = _; rw [e1_1 (c := ⟨t, s, m, a, b⟩) (by assumption), ap_nil, ap_nil]), (by repeat (first | with_reducible exact hB | with_reducible exact Below.refl _ _ | with_reducible refine below_al ?_ _ | with_reducible refine below_st ?_ (by first | exact Nat.le_refl _ | exact Nat.le_add_right _ _ | (simp; omega)) _))⟩
  · exact ⟨ret_str (by show putB t 1 ++ putB m 4 ++ (⟨#[]⟩ : ByteArray) ++ (⟨#[]⟩ : ByteArray) = _; rw [e1_3 (c := ⟨t, s, m, a, b⟩) (by assumption) (by assumption), ap_nil, ap_nil]), (by repeat (first | with_reducible exact hB | with_reducible exact Below.refl _ _ | with_reducible refine below_al ?_ _ | with_reducible refine below_st ?_ (by first | exact Nat.le_refl _ | exact Nat.le_add_right _ _ | (simp; omega)) _))⟩
  · exact ⟨ret_str (by show putB t 1 ++ putB m 8 ++ (⟨#[]⟩ : ByteArray) ++ (⟨#[]⟩ : ByteArray) = _; rw [e1_5 (c := ⟨t, s, m, a, b⟩) (by assumption) (by assumption) (by assumption), ap_nil, ap_nil]), (by repeat (first | with_reducible exact hB | with_reducible exact Below.refl _ _ | with_reducible refine below_al ?_ _ | with_reducible refine below_st ?_ (by first | exact Nat.le_refl _ | exact Nat.le_add_right _ _ | (simp; omega)) _))⟩
  · exact ⟨ret_str (by show putB t 1 ++ putB a 2 ++ (⟨#[]⟩ : ByteArray) ++ (⟨#[]⟩ : ByteArray) = _; rw [e1_7 (c := ⟨t, s, m, a, b⟩) (by assumption) (by assumption) (by assumption) (Or.inl (by assumption)), ap_nil, ap_nil]), (by repeat (first | with_reducible exact hB | with_reducible exact Below.refl _ _ | with_reducible refine below_al ?_ _ | with_reducible refine below_st ?_ (by first | exact Nat.le_refl _ | exact Nat.le_add_right _ _ | (simp; omega)) _))⟩
  · exact ⟨ret_str (by show putB t 1 ++ putB a 2 ++ (⟨#[]⟩ : ByteArray) ++ (⟨#[]⟩ : ByteArray) = _; rw [e1_7 (c := ⟨t, s, m, a, b⟩) (by assumption) (by assumption) (by assumption) (Or.inr (by assumption)), ap_nil, ap_nil]), (by repeat (first | with_reducible exact hB | with_reducible exact Below.refl _ _ | with_reducible refine below_al ?_ _ | with_reducible refine below_st ?_ (by first | exact Nat.le_refl _ | exact Nat.le_add_right _ _ | (simp; omega)) _))⟩
  · exact ⟨ret_str (by show putB t 1 ++ (⟨#[]⟩ : ByteArray) ++ putB a 2 ++ putB b 2 = _; rw [e1_m (c := ⟨t, s, m, a, b⟩) (by assumption) (by assumption) (by assumption) (by assumption) (by assumption), ap_nil, ap_assoc]), (by repeat (first | with_reducible exact hB | with_reducible exact Below.refl _ _ | with_reducible refine below_al ?_ _ | with_reducible refine below_st ?_ (by first | exact Nat.le_refl _ | exact Nat.le_add_right _ _ | (simp; omega)) _))⟩

end Go.Proofs.YthfegbhbokhlkaaGreatDoor

/- PcEnc -/
/- Layer 6: Encode, in the package and in its reference. -/
namespace Go.Proofs.YthfegbhbokhlkaaGreatDoor
open Go.ChangeShapes Go.WideShapes Go.ChangeAt Go.RowKit Go.PlainAid
set_option linter.unusedSimpArgs false
set_option linter.unusedVariables false

def encP (n : Nat) (L : List Cn) : ByteArray := L.foldl (fun x c => x ++ enc1 c) (putB n 2)
def encS (L : List Cn) : ByteArray := if chE L = 0 then encP L.length L else ⟨#[]⟩
theorem enc_ok {L : List Cn} (h : chE L = 0) : encS L = encP L.length L := by unfold encS; rw [if_pos h]
theorem enc_bad {L : List Cn} (h : ¬ chE L = 0) : encS L = ⟨#[]⟩ := by unfold encS; rw [if_neg h]
theorem encP_snoc (n : Nat) (L : List Cn) (c : Cn) : encP n (L ++ [c]) = encP n L ++ enc1 c := by unfold encP; rw [List.foldl_append]; rfl
theorem encP_take {n k : Nat} {L : List Cn} {p : Cn} (h : L[k]? = some p) : encP n (L.take (k + 1)) = encP n (L.take k) ++ enc1 p := by
  rw [← encP_snoc]
  congr 1
  rw [List.take_add_one, h]; rfl
theorem enc1_size {c : Cn} (h : c.s.size ≤ 2000000) : (enc1 c).size ≤ 2000100 := by
  have s1 := putB_size c.t 1
  have s4 := putB_size c.n 4
  have s8 := putB_size c.n 8
  have sa := putB_size c.a 2
  have sb := putB_size c.b 2
  have ss := psB_size c.s
  unfold enc1
  repeat' split
  all_goals (simp only [ByteArray.size_append]; omega)
theorem encP_size {L : List Cn} (h : Short L) (n : Nat) : (encP n L).size ≤ 8 + 2000100 * L.length := by
  have key : ∀ (L : List Cn) (x : ByteArray), Short L → (L.foldl (fun x c => x ++ enc1 c) x).size ≤ x.size + 2000100 * L.length := by
    intro L
    induction L with
    | nil => intro x _; simp
    | cons c r ih =>
      intro x hx
      have h1 := ih (x ++ enc1 c) (fun d hd => hx d (List.mem_cons_of_mem _ hd))
      have h2 := enc1_size (hx c List.mem_cons_self)
      rw [ByteArray.size_append] at h1
      simp only [List.foldl_cons, List.length_cons]
      omega
  have := key L (putB n 2) h
  have := putB_size n 2
  unfold encP
  omega
theorem short_take {L : List Cn} (h : Short L) (k : Nat) : Short (L.take k) := fun c hc => h c (List.mem_of_mem_take hc)

set_option maxRecDepth 100000 in
set_option maxHeartbeats 1000000 in
theorem renc_any {w0 : World} {A : Option Addr} {n c : Nat} {L : List Cn} (hS : Short L) (hn : L.length = n) (hN : n ≤ 100000) (hp : Pool w0 w0.heap.size A L) (w : World) (hb : Below w0.heap.size w0 w) :
    Calls Tryz.prog 22 #[.slice A n c] w fun e w' => e = .returned (.tuple #[.string (encS L), .int .i64 (chE L)]) ∧ Below w.heap.size w w' := by
  have HP := Lib.hid (hp.up hb)
  have HN := Lib.hid hn
  clear hp hb hn
  have hB : Below w.heap.size w w := Below.refl _ _
  cases hE : (chE L != 0) with
  | true =>
    have g := enc_bad (bneT hE)
    go_enter Tryz.func22, Tryz.ntmps22
    go_wp2_with (go_at_call 49; refine (rcheck_any hS HN.out hN HP.out _ (by repeat (first | with_reducible exact hB | with_reducible exact Below.refl _ _ | with_reducible refine below_al ?_ _ | with_reducible refine below_st ?_ (by first | exact Nat.le_refl _ | exact Nat.le_add_right _ _ | (simp; omega)) _))).mono ?_; rintro e w1 ⟨rfl, hb1⟩; obtain ⟨hc1, hf1⟩ := bcell hb1; have hz1 := hb1.size; (try simp only [World.size_alloc, World.size_setCell] at hz1); (try have hza : w.heap.size < w1.heap.size := by omega); (try have hzb : w.heap.size + 1 < w1.heap.size := by omega); (try have hzc : w.heap.size + 1 + 1 < w1.heap.size := by omega); (try have hzd : wa.heap.size < w1.heap.size := by omega); (try replace hR := (hb1.block w.heap.size (by first | exact lt_heap hR | (have := lt_heap hR; simp; omega))).trans (by first | with_reducible exact hR | with_reducible exact laid_old hR)); replace hB := below_on (w := w) ((by repeat (first | with_reducible exact hB | with_reducible exact Below.refl _ _ | with_reducible refine below_al ?_ _ | with_reducible refine below_st ?_ (by first | exact Nat.le_refl _ | exact Nat.le_add_right _ _ | (simp; omega)) _))) hb1; clear hb1)
    go_ret2
    exact ⟨by rw [g]; rfl, (by repeat (first | with_reducible exact hB | with_reducible exact Below.refl _ _ | with_reducible refine below_al ?_ _ | with_reducible refine below_st ?_ (by first | exact Nat.le_refl _ | exact Nat.le_add_right _ _ | (simp; omega)) _))⟩
  | false =>
    have g := Lib.hid (enc_ok (bneF hE))
    have hl := (ch_zero (bneF hE)).1
    have h0 := bneF hE
    go_enter Tryz.func22, Tryz.ntmps22
    go_wp2_with (first | (go_at_call 49; refine (rcheck_any hS HN.out hN HP.out _ (by repeat (first | with_reducible exact hB | with_reducible exact Below.refl _ _ | with_reducible refine below_al ?_ _ | with_reducible refine below_st ?_ (by first | exact Nat.le_refl _ | exact Nat.le_add_right _ _ | (simp; omega)) _))).mono ?_; rintro e w1 ⟨rfl, hb1⟩; obtain ⟨hc1, hf1⟩ := bcell hb1; have hz1 := hb1.size; (try simp only [World.size_alloc, World.size_setCell] at hz1); (try have hza : w.heap.size < w1.heap.size := by omega); (try have hzb : w.heap.size + 1 < w1.heap.size := by omega); (try have hzc : w.heap.size + 1 + 1 < w1.heap.size := by omega); (try have hzd : wa.heap.size < w1.heap.size := by omega); (try replace hR := (hb1.block w.heap.size (by first | exact lt_heap hR | (have := lt_heap hR; simp; omega))).trans (by first | with_reducible exact hR | with_reducible exact laid_old hR)); replace hB := below_on (w := w) ((by repeat (first | with_reducible exact hB | with_reducible exact Below.refl _ _ | with_reducible refine below_al ?_ _ | with_reducible refine below_st ?_ (by first | exact Nat.le_refl _ | exact Nat.le_add_right _ _ | (simp; omega)) _))) hb1; clear hb1) | (go_at_call 50; refine (rput_any _ _ _).mono ?_; rintro e w1 ⟨rfl, hb1⟩; obtain ⟨hc1, hf1⟩ := bcell hb1; have hz1 := hb1.size; (try simp only [World.size_alloc, World.size_setCell] at hz1); (try have hza : w.heap.size < w1.heap.size := by omega); (try have hzb : w.heap.size + 1 < w1.heap.size := by omega); (try have hzc : w.heap.size + 1 + 1 < w1.heap.size := by omega); (try have hzd : wa.heap.size < w1.heap.size := by omega); (try replace hR := (hb1.block w.heap.size (by first | exact lt_heap hR | (have := lt_heap hR; simp; omega))).trans (by first | with_reducible exact hR | with_reducible exact laid_old hR)); replace hB := below_on (w := w) ((by repeat (first | with_reducible exact hB | with_reducible exact Below.refl _ _ | with_reducible refine below_al ?_ _ | with_reducible refine below_st ?_ (by first | exact Nat.le_refl _ | exact Nat.le_add_right _ _ | (simp; omega)) _))) hb1; clear hb1))
    go_loopw [6, 8] (fun s i wr => ∃ k : Nat, k ≤ n ∧ i = .int .i64 k ∧ s = .string (encP n (L.take k)) ∧ Below w.heap.size w wr) (fun _ i _ => n - (intOf i).toNat)
    case atStart => exact ⟨0, Nat.zero_le _, rfl, rfl, hB⟩
    case round =>
      obtain ⟨k, hk, rfl, rfl, hBr⟩ := hrel
      by_cases hlt : k < n
      · have hp : ∃ p, L[k]? = some p := ⟨L[k]'(by rw [HN.out]; exact hlt), List.getElem?_eq_getElem _⟩
        obtain ⟨p, hp⟩ := hp
        have HPW := Lib.hid (HP.out.up hBr)
        rcases HPW.out with h0 | ⟨b, o, rfl, hg, hcell⟩
        · rw [h0] at hp; cases hp
        · obtain ⟨a0, a1, a2, a3, a4⟩ := hcell k _ hp
          have hsz := encP_size (short_take hS k) n
          have hle : (L.take k).length ≤ 1000 := by rw [List.length_take]; omega
          have hps := hS p (List.mem_of_getElem? hp)
          have h1s := enc1_size hps
          have hfit : ¬ 9223372036854775807 < (encP n (L.take k)).size + (enc1 p).size := by omega
          have hk0 : (0 : Int) ≤ (k : Int) := by omega
          have hk1 : (k : Int) < (n : Int) := by omega
          have HPK := Lib.hid hp
          clear hcell hp hsz hle h1s
          go_wp2_with (go_at_call 51; refine (one_any p.t p.s p.n p.a p.b hps _).mono ?_; rintro e w2 ⟨rfl, hb2⟩; replace hBr := below_on (w := w) hBr hb2; clear hb2)
          go_roundw
          case rel => exact ⟨k + 1, by omega, by go_num, by rw [encP_take HPK.out], hBr⟩
          case measure => simp [intOf]; omega
      · obtain rfl : k = n := by omega
        go_wp2
        go_ret2
        exact ⟨by rw [g.out, HN.out, h0, List.take_of_length_le (by rw [HN.out]; exact Nat.le_refl _)]; rfl, hBr⟩

set_option maxRecDepth 100000 in
set_option maxHeartbeats 1000000 in
theorem enc_any {w0 : World} {A : Option Addr} {n c : Nat} {L : List Cn} (hS : Short L) (hn : L.length = n) (hN : n ≤ 100000) (hp : Pool w0 w0.heap.size A L) (w : World) (hb : Below w0.heap.size w0 w) :
    Calls Tryz.prog 13 #[.slice A n c] w fun e w' => e = .returned (.tuple #[.string (encS L), .int .i64 (chE L)]) ∧ Below w.heap.size w w' := by
  have HP := Lib.hid (hp.up hb)
  have HN := Lib.hid hn
  clear hp hb hn
  have hB : Below w.heap.size w w := Below.refl _ _
  cases hE : (chE L != 0) with
  | true =>
    have g := enc_bad (bneT hE)
    go_enter Tryz.func13, Tryz.ntmps13
    go_wp2_with (go_at_call 42; refine (check_any hS.fits HN.out hN HP.out _ (by repeat (first | with_reducible exact hB | with_reducible exact Below.refl _ _ | with_reducible refine below_al ?_ _ | with_reducible refine below_st ?_ (by first | exact Nat.le_refl _ | exact Nat.le_add_right _ _ | (simp; omega)) _))).mono ?_; rintro e w1 ⟨rfl, hb1⟩; obtain ⟨hc1, hf1⟩ := bcell hb1; have hz1 := hb1.size; (try simp only [World.size_alloc, World.size_setCell] at hz1); (try have hza : w.heap.size < w1.heap.size := by omega); (try have hzb : w.heap.size + 1 < w1.heap.size := by omega); (try have hzc : w.heap.size + 1 + 1 < w1.heap.size := by omega); (try have hzd : wa.heap.size < w1.heap.size := by omega); (try replace hR := (hb1.block w.heap.size (by first | exact lt_heap hR | (have := lt_heap hR; simp; omega))).trans (by first | with_reducible exact hR | with_reducible exact laid_old hR)); replace hB := below_on (w := w) ((by repeat (first | with_reducible exact hB | with_reducible exact Below.refl _ _ | with_reducible refine below_al ?_ _ | with_reducible refine below_st ?_ (by first | exact Nat.le_refl _ | exact Nat.le_add_right _ _ | (simp; omega)) _))) hb1; clear hb1)
    go_ret2
    exact ⟨by rw [g]; rfl, (by repeat (first | with_reducible exact hB | with_reducible exact Below.refl _ _ | with_reducible refine below_al ?_ _ | with_reducible refine below_st ?_ (by first | exact Nat.le_refl _ | exact Nat.le_add_right _ _ | (simp; omega)) _))⟩
  | false =>
    have g := Lib.hid (enc_ok (bneF hE))
    have hl := (ch_zero (bneF hE)).1
    have h0 := bneF hE
    go_enter Tryz.func13, Tryz.ntmps13
    go_wp2_with (first | (go_at_call 42; refine (check_any hS.fits HN.out hN HP.out _ hB).mono ?_; rintro e w1 ⟨rfl, hb1⟩; replace hB := below_on (w := w) hB hb1; clear hb1) | (go_at_call 43; refine (pcput_any w1.heap.size w1.heap.size [] _ _ _ (Lib.fresh_isBuilder _ _ w1) (by decide) (by simp)).mono ?_; rintro e w2 ⟨rfl, hbl, hb2⟩))
    have hB1 : Below w1.heap.size w1 w2 := ((Below.refl w1.heap.size w1).alloc (Nat.le_refl _) _).trans hb2
    have HBL := Lib.hid hbl
    rw [List.nil_append] at HBL
    clear hbl hb2
    go_loopw [24] (fun i wr => ∃ k : Nat, k ≤ n ∧ i = .int .i64 k ∧ Lib.BuilderAt 44 5 w1.heap.size w1.heap.size (.pointer (some ⟨w1.heap.size, 0, none⟩)) (Lib.strCells (encP n (L.take k))) wr ∧ Below w1.heap.size w1 wr) (fun i _ => n - (intOf i).toNat)
    case atStart => exact ⟨0, Nat.zero_le _, rfl, HBL.out, hB1⟩
    case round =>
      obtain ⟨k, hk, rfl, hbl, hBr⟩ := hrel
      by_cases hlt : k < n
      · have hp : ∃ p, L[k]? = some p := ⟨L[k]'(by rw [HN.out]; exact hlt), List.getElem?_eq_getElem _⟩
        obtain ⟨p, hp⟩ := hp
        have HPW := Lib.hid (HP.out.up (below_on hB hBr))
        rcases HPW.out with h0 | ⟨b, o, rfl, hg, hcell⟩
        · rw [h0] at hp; cases hp
        · obtain ⟨a0, a1, a2, a3, a4⟩ := hcell k _ hp
          have hsz := encP_size (short_take hS k) n
          have hle : (L.take k).length ≤ 1000 := by rw [List.length_take]; omega
          have hps := hS p (List.mem_of_getElem? hp)
          have zz : (encP n (L.take k)).size ≤ 2000200000 := by omega
          have ss := psB_size p.s
          have s1 := putB_size p.t 1
          have sa := putB_size p.a 2
          have hk0 : (0 : Int) ≤ (k : Int) := by omega
          have hk1 : (k : Int) < (n : Int) := by omega
          have HPK := Lib.hid hp
          clear hcell hp hsz hle
          go_upto_region 9 with fail
          have hkb : wr.heap.size ≠ w1.heap.size := by have := hbl.lt; omega
          have hbl0 := built_keep hbl (below_al (Below.refl _ _) (.cells #[.int .i64 p.t, .string p.s, .int .i64 p.n, .int .i64 p.a, .int .i64 p.b] 80))
          have hBB : Below w1.heap.size w1 (wr.alloc (.cells #[.int .i64 p.t, .string p.s, .int .i64 p.n, .int .i64 p.a, .int .i64 p.b] 80)) := hBr.alloc hBr.size _
          have kc : (wr.alloc (.cells #[.int .i64 p.t, .string p.s, .int .i64 p.n, .int .i64 p.a, .int .i64 p.b] 80)).heap[wr.heap.size]? = some (.cells #[.int .i64 p.t, .string p.s, .int .i64 p.n, .int .i64 p.a, .int .i64 p.b] 80) := World.alloc_heap_new wr _
          clear a0 a1 a2 a3 a4
          generalize wr.alloc (.cells #[.int .i64 p.t, .string p.s, .int .i64 p.n, .int .i64 p.a, .int .i64 p.b] 80) = W2 at hbl0 hBB kc ⊢
          replace hbl := hbl0
          clear hbl0 hBr HPW
          obtain ⟨c0, c1, c2, c3, c4, q0, q1, q2, q3, q4⟩ := five_cells kc
          go_wp2_with (first | (go_at_call 43; refine (pcputK_any w1.heap.size w1.heap.size _ _ _ _ hbl (by simp only [List.length_append, Lib.strCells_length]; omega) (by have := hBB.size; omega)).mono ?_; rintro e w3 ⟨rfl, hbl2, hbx, ha⟩; replace kc := ha _ _ _ _ hkb (by decide) kc; obtain ⟨c0, c1, c2, c3, c4, q0, q1, q2, q3, q4⟩ := five_cells kc; replace hbl := hbl2; replace hBB := hBB.trans hbx; clear ha hbx) | (go_at_call 44; refine (puts_any p.s (by omega) _).mono ?_; rintro e w3 ⟨rfl, hbx⟩; replace kc := (hbx.block _ (lt_heap kc)).trans kc; obtain ⟨c0, c1, c2, c3, c4, q0, q1, q2, q3, q4⟩ := five_cells kc; replace hbl := built_keep hbl hbx; replace hBB := hBB.trans (hbx.mono hBB.size); clear hbx) | (go_at_call 16; refine (wstrK_any w1.heap.size w1.heap.size _ _ _ hbl (by simp only [List.length_append, Lib.strCells_length]; omega) (by have := hBB.size; omega)).mono ?_; rintro e w3 ⟨rfl, hbl2, hbx, ha⟩; replace hbl := hbl2; replace hBB := hBB.trans hbx; clear ha hbx))
          · have e9 := e1_1 (c := p) (by assumption)
            go_roundw
            case rel => exact ⟨k + 1, by omega, by go_num, by rw [encP_take HPK.out, e9]; simpa only [strC_app, List.append_assoc] using hbl, hBB⟩
            case measure => simp [intOf]; omega
          · have e9 := e1_3 (c := p) (by assumption) (by assumption)
            go_roundw
            case rel => exact ⟨k + 1, by omega, by go_num, by rw [encP_take HPK.out, e9]; simpa only [strC_app, List.append_assoc] using hbl, hBB⟩
            case measure => simp [intOf]; omega
          · have e9 := e1_5 (c := p) (by assumption) (by assumption) (by assumption)
            go_roundw
            case rel => exact ⟨k + 1, by omega, by go_num, by rw [encP_take HPK.out, e9]; simpa only [strC_app, List.append_assoc] using hbl, hBB⟩
            case measure => simp [intOf]; omega
          · have e9 := e1_7 (c := p) (by assumption) (by assumption) (by assumption) (Or.inl (by assumption))
            go_roundw
            case rel => exact ⟨k + 1, by omega, by go_num, by rw [encP_take HPK.out, e9]; simpa only [strC_app, List.append_assoc] using hbl, hBB⟩
            case measure => simp [intOf]; omega
          · have e9 := e1_7 (c := p) (by assumption) (by assumption) (by assumption) (Or.inr (by assumption))
            go_roundw
            case rel => exact ⟨k + 1, by omega, by go_num, by rw [encP_take HPK.out, e9]; simpa only [strC_app, List.append_assoc] using hbl, hBB⟩
            case measure => simp [intOf]; omega
          · have e9 := e1_m (c := p) (by assumption) (by assumption) (by assumption) (by assumption) (by assumption)
            go_roundw
            case rel => exact ⟨k + 1, by omega, by go_num, by rw [encP_take HPK.out, e9]; simpa only [strC_app, List.append_assoc] using hbl, hBB⟩
            case measure => simp [intOf]; omega
      · obtain rfl : k = n := by omega
        go_wp2_with (go_at_call 21; refine (Tryz.Builder_String_any w1.heap.size w1.heap.size (encP k (L.take k)).data.toList _ (Or.inr hbl) hBr.size).mono ?_; rintro e w5 ⟨rfl, hb5⟩)
        go_ret2
        exact ⟨by rw [g.out, HN.out, h0]; rw [show (⟨(encP k (L.take k)).data.toList.toArray⟩ : ByteArray) = encP k L from by rw [List.take_of_length_le (by rw [HN.out]; exact Nat.le_refl _)]]; rfl, hB.trans ((hBr.trans hb5).mono hB.size)⟩

end Go.Proofs.YthfegbhbokhlkaaGreatDoor

/- PcDec -/
/- Layer 6: one constant read, in the package and in its reference. -/
namespace Go.Proofs.YthfegbhbokhlkaaGreatDoor
open Go.ChangeShapes Go.WideShapes Go.ChangeAt Go.RowKit Go.PlainAid
set_option linter.unusedSimpArgs false
set_option linter.unusedVariables false

def dcE (s : ByteArray) (p : Int) : Int :=
  if unsE s p 1 = 0 then
    if unsV s p 1 = 1 then gsE s (p + 1)
    else if unsV s p 1 = 3 then unsE s (p + 1) 4
    else if unsV s p 1 = 5 then unsE s (p + 1) 8
    else if unsV s p 1 = 7 ∨ unsV s p 1 = 8 then unsE s (p + 1) 2
    else if mtB (unsV s p 1) = true ∨ unsV s p 1 = 12 then (if unsE s (p + 1) 2 = 0 then unsE s (p + 3) 2 else unsE s (p + 1) 2)
    else 11
  else unsE s p 1
def dcC (s : ByteArray) (p : Int) : Cn :=
  if unsV s p 1 = 1 then ⟨1, gsB s (p + 1), 0, 0, 0⟩
  else if unsV s p 1 = 3 then ⟨3, ⟨#[]⟩, sigV s (p + 1) 4, 0, 0⟩
  else if unsV s p 1 = 5 then ⟨5, ⟨#[]⟩, sigV s (p + 1) 8, 0, 0⟩
  else if unsV s p 1 = 7 ∨ unsV s p 1 = 8 then ⟨unsV s p 1, ⟨#[]⟩, 0, unsV s (p + 1) 2, 0⟩
  else ⟨unsV s p 1, ⟨#[]⟩, 0, unsV s (p + 1) 2, unsV s (p + 3) 2⟩
def dcN (s : ByteArray) (p : Int) : Int :=
  if unsV s p 1 = 1 then gsN s (p + 1)
  else if unsV s p 1 = 3 then p + 5
  else if unsV s p 1 = 5 then p + 9
  else if unsV s p 1 = 7 ∨ unsV s p 1 = 8 then p + 3
  else p + 5
theorem un_e {s : ByteArray} {p z : Int} (hp : 0 ≤ p ∧ p ≤ s.size) (hz : okSize z) : unsE s p z = 0 ∨ unsE s p z = 3 := by
  unfold unsE
  rw [if_neg (by simpa using hz), if_neg (by omega)]
  split
  · exact Or.inr rfl
  · exact Or.inl rfl
theorem un_0 {s : ByteArray} {p z : Int} (hz : okSize z) (h : unsE s p z = 0) : 0 ≤ p ∧ p + z ≤ s.size := by
  unfold unsE at h
  rw [if_neg (by simpa using hz)] at h
  split at h
  · cases h
  · split at h
    · cases h
    · omega
theorem ok1 : okSize 1 := by decide
theorem ok2 : okSize 2 := by decide
theorem ok4 : okSize 4 := by decide
theorem ok8 : okSize 8 := by decide

theorem dw_0 {s : ByteArray} {p : Int} (h : ¬ unsE s p 1 = 0) : dcE s p = unsE s p 1 := by unfold dcE; rw [if_neg h]
theorem dw_1 {s : ByteArray} {p : Int} (h : unsE s p 1 = 0) (h1 : unsV s p 1 = 1) : dcE s p = gsE s (p + 1) ∧ dcC s p = ⟨unsV s p 1, gsB s (p + 1), 0, 0, 0⟩ ∧ dcN s p = gsN s (p + 1) := by
  unfold dcE dcC dcN; rw [if_pos h, if_pos h1, if_pos h1, if_pos h1, h1]; exact ⟨rfl, rfl, rfl⟩
theorem dw_3 {s : ByteArray} {p : Int} (h : unsE s p 1 = 0) (h1 : unsV s p 1 = 3) : dcE s p = unsE s (p + 1) 4 ∧ dcC s p = ⟨unsV s p 1, ⟨#[]⟩, sigV s (p + 1) 4, 0, 0⟩ ∧ dcN s p = p + 5 := by
  have n1 : ¬ unsV s p 1 = 1 := by omega
  unfold dcE dcC dcN; rw [if_pos h, if_neg n1, if_pos h1, if_neg n1, if_pos h1, if_neg n1, if_pos h1, h1]; exact ⟨rfl, rfl, rfl⟩
theorem dw_5 {s : ByteArray} {p : Int} (h : unsE s p 1 = 0) (h1 : unsV s p 1 = 5) : dcE s p = unsE s (p + 1) 8 ∧ dcC s p = ⟨unsV s p 1, ⟨#[]⟩, sigV s (p + 1) 8, 0, 0⟩ ∧ dcN s p = p + 9 := by
  have n1 : ¬ unsV s p 1 = 1 := by omega
  have n3 : ¬ unsV s p 1 = 3 := by omega
  unfold dcE dcC dcN; rw [if_pos h, if_neg n1, if_neg n3, if_pos h1, if_neg n1, if_neg n3, if_pos h1, if_neg n1, if_neg n3, if_pos h1, h1]; exact ⟨rfl, rfl, rfl⟩
theorem dw_7 {s : ByteArray} {p : Int} (h : unsE s p 1 = 0) (h1 : unsV s p 1 = 7 ∨ unsV s p 1 = 8) : dcE s p = unsE s (p + 1) 2 ∧ dcC s p = ⟨unsV s p 1, ⟨#[]⟩, 0, unsV s (p + 1) 2, 0⟩ ∧ dcN s p = p + 3 := by
  have n1 : ¬ unsV s p 1 = 1 := by omega
  have n3 : ¬ unsV s p 1 = 3 := by omega
  have n5 : ¬ unsV s p 1 = 5 := by omega
  unfold dcE dcC dcN; rw [if_pos h, if_neg n1, if_neg n3, if_neg n5, if_pos h1, if_neg n1, if_neg n3, if_neg n5, if_pos h1, if_neg n1, if_neg n3, if_neg n5, if_pos h1]; exact ⟨rfl, rfl, rfl⟩
theorem mt_or {t : Int} (h : 9 ≤ t ∧ t ≤ 12) : mtB t = true ∨ t = 12 := by
  rcases (by omega : t = 9 ∨ t = 10 ∨ t = 11 ∨ t = 12) with rfl | rfl | rfl | rfl
  · exact Or.inl rfl
  · exact Or.inl rfl
  · exact Or.inl rfl
  · exact Or.inr rfl
theorem dw_m {s : ByteArray} {p : Int} (h : unsE s p 1 = 0) (h1 : 9 ≤ unsV s p 1 ∧ unsV s p 1 ≤ 12) (h2 : unsE s (p + 1) 2 = 0) : dcE s p = unsE s (p + 3) 2 ∧ dcC s p = ⟨unsV s p 1, ⟨#[]⟩, 0, unsV s (p + 1) 2, unsV s (p + 3) 2⟩ ∧ dcN s p = p + 5 := by
  have n1 : ¬ unsV s p 1 = 1 := by omega
  have n3 : ¬ unsV s p 1 = 3 := by omega
  have n5 : ¬ unsV s p 1 = 5 := by omega
  have n7 : ¬ (unsV s p 1 = 7 ∨ unsV s p 1 = 8) := by omega
  unfold dcE dcC dcN; rw [if_pos h, if_neg n1, if_neg n3, if_neg n5, if_neg n7, if_pos (mt_or h1), if_pos h2, if_neg n1, if_neg n3, if_neg n5, if_neg n7, if_neg n1, if_neg n3, if_neg n5, if_neg n7]; exact ⟨rfl, rfl, rfl⟩
theorem dw_n {s : ByteArray} {p : Int} (h : unsE s p 1 = 0) (h1 : 9 ≤ unsV s p 1 ∧ unsV s p 1 ≤ 12) (h2 : ¬ unsE s (p + 1) 2 = 0) : dcE s p = unsE s (p + 1) 2 := by
  unfold dcE; rw [if_pos h, if_neg (by omega), if_neg (by omega), if_neg (by omega), if_neg (by omega), if_pos (mt_or h1), if_neg h2]
theorem dw_u {s : ByteArray} {p : Int} (h : unsE s p 1 = 0) (h1 : knB (unsV s p 1) = false) : dcE s p = 11 := by
  have hx : ¬ unsV s p 1 = 1 ∧ ¬ unsV s p 1 = 3 ∧ ¬ unsV s p 1 = 5 ∧ ¬ (unsV s p 1 = 7 ∨ unsV s p 1 = 8) ∧ ¬ (mtB (unsV s p 1) = true ∨ unsV s p 1 = 12) := by
    refine ⟨?_, ?_, ?_, ?_, ?_⟩
    · intro e; rw [e] at h1; cases h1
    · intro e; rw [e] at h1; cases h1
    · intro e; rw [e] at h1; cases h1
    · rintro (e | e) <;> (rw [e] at h1; cases h1)
    · rintro (e | e)
      · unfold knB at h1; rw [e] at h1; simp at h1
      · rw [e] at h1; cases h1
  unfold dcE; rw [if_pos h, if_neg hx.1, if_neg hx.2.1, if_neg hx.2.2.1, if_neg hx.2.2.2.1, if_neg hx.2.2.2.2]
theorem kn_no {t : Int} (h1 : (t == 1) = false) (h3 : (t == 3) = false) (h5 : (t == 5) = false) (h7 : (t == 7) = false) (h8 : (t == 8) = false) (h9 : (t == 9) = false) (h10 : (t == 10) = false) (h11 : (t == 11) = false) (h12 : (t == 12) = false) : knB t = false := by
  unfold knB mtB; rw [h1, h3, h5, h7, h8, h9, h10, h11, h12]; rfl

/-- what the reader of one constant hands back -/
def DcRet (w : World) (s : ByteArray) (p : Int) (r : Ending) (w' : World) : Prop :=
  ∃ c q, r = .returned (.tuple #[(Value.agg #[Value.int IntKind.i64 (Cn.t c), Value.string (Cn.s c), Value.int IntKind.i64 (Cn.n c), Value.int IntKind.i64 (Cn.a c), Value.int IntKind.i64 (Cn.b c)]), .int .i64 q, .int .i64 (dcE s p)]) ∧ (dcE s p = 0 → c = dcC s p ∧ q = dcN s p) ∧ Below w.heap.size w w'

set_option maxRecDepth 100000 in
set_option maxHeartbeats 4000000 in
theorem dc_any (s : ByteArray) (p : Int) (hs : s.size ≤ 140737488355328) (hp : 0 ≤ p ∧ p ≤ s.size) (w : World) :
    Calls Tryz.prog 54 #[.string s, .int .i64 p] w (DcRet w s p) := by
  have hB : Below w.heap.size w w := Below.refl _ _
  obtain ⟨hp0, hp1⟩ := hp
  have h3 : p + 1 + 2 = p + 3 := by omega
  go_enter Tryz.func54, Tryz.ntmps54
  go_wp2_with (first | (go_at_call 53; refine (uns_any s _ _ (by omega) _).mono ?_; rintro e w' ⟨rfl, rfl⟩) | (go_at_call 66; refine (sig_any s _ _ (by omega) _).mono ?_; rintro e w' ⟨rfl, rfl⟩) | (go_at_call 65; refine (gets_any s _ (by omega) _).mono ?_; rintro e w' ⟨rfl, rfl⟩))
  · have g := dw_0 (s := s) (p := p) (bneT (by with_reducible assumption))
    refine bodyPost_ret (v := .tuple #[(Value.agg #[Value.int IntKind.i64 (Cn.t ((⟨0, ⟨#[]⟩, 0, 0, 0⟩ : Cn))), Value.string (Cn.s ((⟨0, ⟨#[]⟩, 0, 0, 0⟩ : Cn))), Value.int IntKind.i64 (Cn.n ((⟨0, ⟨#[]⟩, 0, 0, 0⟩ : Cn))), Value.int IntKind.i64 (Cn.a ((⟨0, ⟨#[]⟩, 0, 0, 0⟩ : Cn))), Value.int IntKind.i64 (Cn.b ((⟨0, ⟨#[]⟩, 0, 0, 0⟩ : Cn)))]), .int .i64 (0), .int .i64 (unsE s p 1)]) ?_ rfl ⟨⟨0, ⟨#[]⟩, 0, 0, 0⟩, 0, by rw [g], fun h => absurd (g.symm.trans h) (bneT (by with_reducible assumption)), below_al hB _⟩
    simp [results, Tryz.f54, go_sem, set_same, *]
  · have g := dw_1 (s := s) (p := p) (bneF (by with_reducible assumption)) (eqT (by with_reducible assumption))
    refine bodyPost_ret (v := .tuple #[(Value.agg #[Value.int IntKind.i64 (Cn.t ((⟨unsV s p 1, gsB s (p + 1), 0, 0, 0⟩ : Cn))), Value.string (Cn.s ((⟨unsV s p 1, gsB s (p + 1), 0, 0, 0⟩ : Cn))), Value.int IntKind.i64 (Cn.n ((⟨unsV s p 1, gsB s (p + 1), 0, 0, 0⟩ : Cn))), Value.int IntKind.i64 (Cn.a ((⟨unsV s p 1, gsB s (p + 1), 0, 0, 0⟩ : Cn))), Value.int IntKind.i64 (Cn.b ((⟨unsV s p 1, gsB s (p + 1), 0, 0, 0⟩ : Cn)))]), .int .i64 (gsN s (p + 1)), .int .i64 (gsE s (p + 1))]) ?_ rfl ⟨⟨unsV s p 1, gsB s (p + 1), 0, 0, 0⟩, gsN s (p + 1), by rw [g.1], fun _ => ⟨g.2.1.symm, g.2.2.symm⟩, below_al (below_al hB _) _⟩
    simp [results, Tryz.f54, go_sem, set_same, *]
  · have g := dw_3 (s := s) (p := p) (bneF (by with_reducible assumption)) (eqT (by with_reducible assumption))
    refine bodyPost_ret (v := .tuple #[(Value.agg #[Value.int IntKind.i64 (Cn.t ((⟨unsV s p 1, ⟨#[]⟩, sigV s (p + 1) 4, 0, 0⟩ : Cn))), Value.string (Cn.s ((⟨unsV s p 1, ⟨#[]⟩, sigV s (p + 1) 4, 0, 0⟩ : Cn))), Value.int IntKind.i64 (Cn.n ((⟨unsV s p 1, ⟨#[]⟩, sigV s (p + 1) 4, 0, 0⟩ : Cn))), Value.int IntKind.i64 (Cn.a ((⟨unsV s p 1, ⟨#[]⟩, sigV s (p + 1) 4, 0, 0⟩ : Cn))), Value.int IntKind.i64 (Cn.b ((⟨unsV s p 1, ⟨#[]⟩, sigV s (p + 1) 4, 0, 0⟩ : Cn)))]), .int .i64 (p + 1 + 4), .int .i64 (unsE s (p + 1) 4)]) ?_ rfl ⟨⟨unsV s p 1, ⟨#[]⟩, sigV s (p + 1) 4, 0, 0⟩, p + 1 + 4, by rw [g.1], fun _ => ⟨g.2.1.symm, by rw [g.2.2]; omega⟩, below_al (below_al hB _) _⟩
    simp [results, Tryz.f54, go_sem, set_same, *]
  · have g := dw_5 (s := s) (p := p) (bneF (by with_reducible assumption)) (eqT (by with_reducible assumption))
    refine bodyPost_ret (v := .tuple #[(Value.agg #[Value.int IntKind.i64 (Cn.t ((⟨unsV s p 1, ⟨#[]⟩, sigV s (p + 1) 8, 0, 0⟩ : Cn))), Value.string (Cn.s ((⟨unsV s p 1, ⟨#[]⟩, sigV s (p + 1) 8, 0, 0⟩ : Cn))), Value.int IntKind.i64 (Cn.n ((⟨unsV s p 1, ⟨#[]⟩, sigV s (p + 1) 8, 0, 0⟩ : Cn))), Value.int IntKind.i64 (Cn.a ((⟨unsV s p 1, ⟨#[]⟩, sigV s (p + 1) 8, 0, 0⟩ : Cn))), Value.int IntKind.i64 (Cn.b ((⟨unsV s p 1, ⟨#[]⟩, sigV s (p + 1) 8, 0, 0⟩ : Cn)))]), .int .i64 (p + 1 + 8), .int .i64 (unsE s (p + 1) 8)]) ?_ rfl ⟨⟨unsV s p 1, ⟨#[]⟩, sigV s (p + 1) 8, 0, 0⟩, p + 1 + 8, by rw [g.1], fun _ => ⟨g.2.1.symm, by rw [g.2.2]; omega⟩, below_al (below_al hB _) _⟩
    simp [results, Tryz.f54, go_sem, set_same, *]
  · have g := dw_7 (s := s) (p := p) (bneF (by with_reducible assumption)) (Or.inl (eqT (by with_reducible assumption)))
    refine bodyPost_ret (v := .tuple #[(Value.agg #[Value.int IntKind.i64 (Cn.t ((⟨unsV s p 1, ⟨#[]⟩, 0, unsV s (p + 1) 2, 0⟩ : Cn))), Value.string (Cn.s ((⟨unsV s p 1, ⟨#[]⟩, 0, unsV s (p + 1) 2, 0⟩ : Cn))), Value.int IntKind.i64 (Cn.n ((⟨unsV s p 1, ⟨#[]⟩, 0, unsV s (p + 1) 2, 0⟩ : Cn))), Value.int IntKind.i64 (Cn.a ((⟨unsV s p 1, ⟨#[]⟩, 0, unsV s (p + 1) 2, 0⟩ : Cn))), Value.int IntKind.i64 (Cn.b ((⟨unsV s p 1, ⟨#[]⟩, 0, unsV s (p + 1) 2, 0⟩ : Cn)))]), .int .i64 (p + 1 + 2), .int .i64 (unsE s (p + 1) 2)]) ?_ rfl ⟨⟨unsV s p 1, ⟨#[]⟩, 0, unsV s (p + 1) 2, 0⟩, p + 1 + 2, by rw [g.1], fun _ => ⟨g.2.1.symm, by rw [g.2.2]; omega⟩, below_al (below_al hB _) _⟩
    simp [results, Tryz.f54, go_sem, set_same, *]
  · have g := dw_7 (s := s) (p := p) (bneF (by with_reducible assumption)) (Or.inr (eqT (by with_reducible assumption)))
    refine bodyPost_ret (v := .tuple #[(Value.agg #[Value.int IntKind.i64 (Cn.t ((⟨unsV s p 1, ⟨#[]⟩, 0, unsV s (p + 1) 2, 0⟩ : Cn))), Value.string (Cn.s ((⟨unsV s p 1, ⟨#[]⟩, 0, unsV s (p + 1) 2, 0⟩ : Cn))), Value.int IntKind.i64 (Cn.n ((⟨unsV s p 1, ⟨#[]⟩, 0, unsV s (p + 1) 2, 0⟩ : Cn))), Value.int IntKind.i64 (Cn.a ((⟨unsV s p 1, ⟨#[]⟩, 0, unsV s (p + 1) 2, 0⟩ : Cn))), Value.int IntKind.i64 (Cn.b ((⟨unsV s p 1, ⟨#[]⟩, 0, unsV s (p + 1) 2, 0⟩ : Cn)))]), .int .i64 (p + 1 + 2), .int .i64 (unsE s (p + 1) 2)]) ?_ rfl ⟨⟨unsV s p 1, ⟨#[]⟩, 0, unsV s (p + 1) 2, 0⟩, p + 1 + 2, by rw [g.1], fun _ => ⟨g.2.1.symm, by rw [g.2.2]; omega⟩, below_al (below_al hB _) _⟩
    simp [results, Tryz.f54, go_sem, set_same, *]
  · have g := dw_m (s := s) (p := p) (bneF (by with_reducible assumption)) (by have h9 : unsV s p 1 = 9 := (eqT (by with_reducible assumption)); omega) (eqT (by with_reducible assumption))
    refine bodyPost_ret (v := .tuple #[(Value.agg #[Value.int IntKind.i64 (Cn.t ((⟨unsV s p 1, ⟨#[]⟩, 0, unsV s (p + 1) 2, unsV s (p + 3) 2⟩ : Cn))), Value.string (Cn.s ((⟨unsV s p 1, ⟨#[]⟩, 0, unsV s (p + 1) 2, unsV s (p + 3) 2⟩ : Cn))), Value.int IntKind.i64 (Cn.n ((⟨unsV s p 1, ⟨#[]⟩, 0, unsV s (p + 1) 2, unsV s (p + 3) 2⟩ : Cn))), Value.int IntKind.i64 (Cn.a ((⟨unsV s p 1, ⟨#[]⟩, 0, unsV s (p + 1) 2, unsV s (p + 3) 2⟩ : Cn))), Value.int IntKind.i64 (Cn.b ((⟨unsV s p 1, ⟨#[]⟩, 0, unsV s (p + 1) 2, unsV s (p + 3) 2⟩ : Cn)))]), .int .i64 (p + 1 + 4), .int .i64 (unsE s (p + 3) 2)]) ?_ rfl ⟨⟨unsV s p 1, ⟨#[]⟩, 0, unsV s (p + 1) 2, unsV s (p + 3) 2⟩, p + 1 + 4, by rw [g.1], fun _ => ⟨g.2.1.symm, by rw [g.2.2]; omega⟩, below_al (below_al hB _) _⟩
    simp [results, Tryz.f54, go_sem, set_same, *]
  · have g := dw_n (s := s) (p := p) (bneF (by with_reducible assumption)) (by have h9 : unsV s p 1 = 9 := (eqT (by with_reducible assumption)); omega) (eqF (by with_reducible assumption))
    refine bodyPost_ret (v := .tuple #[(Value.agg #[Value.int IntKind.i64 (Cn.t ((⟨unsV s p 1, ⟨#[]⟩, 0, unsV s (p + 1) 2, 0⟩ : Cn))), Value.string (Cn.s ((⟨unsV s p 1, ⟨#[]⟩, 0, unsV s (p + 1) 2, 0⟩ : Cn))), Value.int IntKind.i64 (Cn.n ((⟨unsV s p 1, ⟨#[]⟩, 0, unsV s (p + 1) 2, 0⟩ : Cn))), Value.int IntKind.i64 (Cn.a ((⟨unsV s p 1, ⟨#[]⟩, 0, unsV s (p + 1) 2, 0⟩ : Cn))), Value.int IntKind.i64 (Cn.b ((⟨unsV s p 1, ⟨#[]⟩, 0, unsV s (p + 1) 2, 0⟩ : Cn)))]), .int .i64 (p + 1 + 4), .int .i64 (unsE s (p + 1) 2)]) ?_ rfl ⟨⟨unsV s p 1, ⟨#[]⟩, 0, unsV s (p + 1) 2, 0⟩, p + 1 + 4, by rw [g], fun h => absurd (g.symm.trans h) (eqF (by with_reducible assumption)), below_al (below_al hB _) _⟩
    simp [results, Tryz.f54, go_sem, set_same, *]
  · have g := dw_m (s := s) (p := p) (bneF (by with_reducible assumption)) (by have h9 : unsV s p 1 = 10 := (eqT (by with_reducible assumption)); omega) (eqT (by with_reducible assumption))
    refine bodyPost_ret (v := .tuple #[(Value.agg #[Value.int IntKind.i64 (Cn.t ((⟨unsV s p 1, ⟨#[]⟩, 0, unsV s (p + 1) 2, unsV s (p + 3) 2⟩ : Cn))), Value.string (Cn.s ((⟨unsV s p 1, ⟨#[]⟩, 0, unsV s (p + 1) 2, unsV s (p + 3) 2⟩ : Cn))), Value.int IntKind.i64 (Cn.n ((⟨unsV s p 1, ⟨#[]⟩, 0, unsV s (p + 1) 2, unsV s (p + 3) 2⟩ : Cn))), Value.int IntKind.i64 (Cn.a ((⟨unsV s p 1, ⟨#[]⟩, 0, unsV s (p + 1) 2, unsV s (p + 3) 2⟩ : Cn))), Value.int IntKind.i64 (Cn.b ((⟨unsV s p 1, ⟨#[]⟩, 0, unsV s (p + 1) 2, unsV s (p + 3) 2⟩ : Cn)))]), .int .i64 (p + 1 + 4), .int .i64 (unsE s (p + 3) 2)]) ?_ rfl ⟨⟨unsV s p 1, ⟨#[]⟩, 0, unsV s (p + 1) 2, unsV s (p + 3) 2⟩, p + 1 + 4, by rw [g.1], fun _ => ⟨g.2.1.symm, by rw [g.2.2]; omega⟩, below_al (below_al hB _) _⟩
    simp [results, Tryz.f54, go_sem, set_same, *]
  · have g := dw_n (s := s) (p := p) (bneF (by with_reducible assumption)) (by have h9 : unsV s p 1 = 10 := (eqT (by with_reducible assumption)); omega) (eqF (by with_reducible assumption))
    refine bodyPost_ret (v := .tuple #[(Value.agg #[Value.int IntKind.i64 (Cn.t ((⟨unsV s p 1, ⟨#[]⟩, 0, unsV s (p + 1) 2, 0⟩ : Cn))), Value.string (Cn.s ((⟨unsV s p 1, ⟨#[]⟩, 0, unsV s (p + 1) 2, 0⟩ : Cn))), Value.int IntKind.i64 (Cn.n ((⟨unsV s p 1, ⟨#[]⟩, 0, unsV s (p + 1) 2, 0⟩ : Cn))), Value.int IntKind.i64 (Cn.a ((⟨unsV s p 1, ⟨#[]⟩, 0, unsV s (p + 1) 2, 0⟩ : Cn))), Value.int IntKind.i64 (Cn.b ((⟨unsV s p 1, ⟨#[]⟩, 0, unsV s (p + 1) 2, 0⟩ : Cn)))]), .int .i64 (p + 1 + 4), .int .i64 (unsE s (p + 1) 2)]) ?_ rfl ⟨⟨unsV s p 1, ⟨#[]⟩, 0, unsV s (p + 1) 2, 0⟩, p + 1 + 4, by rw [g], fun h => absurd (g.symm.trans h) (eqF (by with_reducible assumption)), below_al (below_al hB _) _⟩
    simp [results, Tryz.f54, go_sem, set_same, *]
  · have g := dw_m (s := s) (p := p) (bneF (by with_reducible assumption)) (by have h9 : unsV s p 1 = 11 := (eqT (by with_reducible assumption)); omega) (eqT (by with_reducible assumption))
    refine bodyPost_ret (v := .tuple #[(Value.agg #[Value.int IntKind.i64 (Cn.t ((⟨unsV s p 1, ⟨#[]⟩, 0, unsV s (p + 1) 2, unsV s (p + 3) 2⟩ : Cn))), Value.string (Cn.s ((⟨unsV s p 1, ⟨#[]⟩, 0, unsV s (p + 1) 2, unsV s (p + 3) 2⟩ : Cn))), Value.int IntKind.i64 (Cn.n ((⟨unsV s p 1, ⟨#[]⟩, 0, unsV s (p + 1) 2, unsV s (p + 3) 2⟩ : Cn))), Value.int IntKind.i64 (Cn.a ((⟨unsV s p 1, ⟨#[]⟩, 0, unsV s (p + 1) 2, unsV s (p + 3) 2⟩ : Cn))), Value.int IntKind.i64 (Cn.b ((⟨unsV s p 1, ⟨#[]⟩, 0, unsV s (p + 1) 2, unsV s (p + 3) 2⟩ : Cn)))]), .int .i64 (p + 1 + 4), .int .i64 (unsE s (p + 3) 2)]) ?_ rfl ⟨⟨unsV s p 1, ⟨#[]⟩, 0, unsV s (p + 1) 2, unsV s (p + 3) 2⟩, p + 1 + 4, by rw [g.1], fun _ => ⟨g.2.1.symm, by rw [g.2.2]; omega⟩, below_al (below_al hB _) _⟩
    simp [results, Tryz.f54, go_sem, set_same, *]
  · have g := dw_n (s := s) (p := p) (bneF (by with_reducible assumption)) (by have h9 : unsV s p 1 = 11 := (eqT (by with_reducible assumption)); omega) (eqF (by with_reducible assumption))
    refine bodyPost_ret (v := .tuple #[(Value.agg #[Value.int IntKind.i64 (Cn.t ((⟨unsV s p 1, ⟨#[]⟩, 0, unsV s (p + 1) 2, 0⟩ : Cn))), Value.string (Cn.s ((⟨unsV s p 1, ⟨#[]⟩, 0, unsV s (p + 1) 2, 0⟩ : Cn))), Value.int IntKind.i64 (Cn.n ((⟨unsV s p 1, ⟨#[]⟩, 0, unsV s (p + 1) 2, 0⟩ : Cn))), Value.int IntKind.i64 (Cn.a ((⟨unsV s p 1, ⟨#[]⟩, 0, unsV s (p + 1) 2, 0⟩ : Cn))), Value.int IntKind.i64 (Cn.b ((⟨unsV s p 1, ⟨#[]⟩, 0, unsV s (p + 1) 2, 0⟩ : Cn)))]), .int .i64 (p + 1 + 4), .int .i64 (unsE s (p + 1) 2)]) ?_ rfl ⟨⟨unsV s p 1, ⟨#[]⟩, 0, unsV s (p + 1) 2, 0⟩, p + 1 + 4, by rw [g], fun h => absurd (g.symm.trans h) (eqF (by with_reducible assumption)), below_al (below_al hB _) _⟩
    simp [results, Tryz.f54, go_sem, set_same, *]
  · have g := dw_m (s := s) (p := p) (bneF (by with_reducible assumption)) (by have h9 : unsV s p 1 = 12 := (eqT (by with_reducible assumption)); omega) (eqT (by with_reducible assumption))
    refine bodyPost_ret (v := .tuple #[(Value.agg #[Value.int IntKind.i64 (Cn.t ((⟨unsV s p 1, ⟨#[]⟩, 0, unsV s (p + 1) 2, unsV s (p + 3) 2⟩ : Cn))), Value.string (Cn.s ((⟨unsV s p 1, ⟨#[]⟩, 0, unsV s (p + 1) 2, unsV s (p + 3) 2⟩ : Cn))), Value.int IntKind.i64 (Cn.n ((⟨unsV s p 1, ⟨#[]⟩, 0, unsV s (p + 1) 2, unsV s (p + 3) 2⟩ : Cn))), Value.int IntKind.i64 (Cn.a ((⟨unsV s p 1, ⟨#[]⟩, 0, unsV s (p + 1) 2, unsV s (p + 3) 2⟩ : Cn))), Value.int IntKind.i64 (Cn.b ((⟨unsV s p 1, ⟨#[]⟩, 0, unsV s (p + 1) 2, unsV s (p + 3) 2⟩ : Cn)))]), .int .i64 (p + 1 + 4), .int .i64 (unsE s (p + 3) 2)]) ?_ rfl ⟨⟨unsV s p 1, ⟨#[]⟩, 0, unsV s (p + 1) 2, unsV s (p + 3) 2⟩, p + 1 + 4, by rw [g.1], fun _ => ⟨g.2.1.symm, by rw [g.2.2]; omega⟩, below_al (below_al hB _) _⟩
    simp [results, Tryz.f54, go_sem, set_same, *]
  · have g := dw_n (s := s) (p := p) (bneF (by with_reducible assumption)) (by have h9 : unsV s p 1 = 12 := (eqT (by with_reducible assumption)); omega) (eqF (by with_reducible assumption))
    refine bodyPost_ret (v := .tuple #[(Value.agg #[Value.int IntKind.i64 (Cn.t ((⟨unsV s p 1, ⟨#[]⟩, 0, unsV s (p + 1) 2, 0⟩ : Cn))), Value.string (Cn.s ((⟨unsV s p 1, ⟨#[]⟩, 0, unsV s (p + 1) 2, 0⟩ : Cn))), Value.int IntKind.i64 (Cn.n ((⟨unsV s p 1, ⟨#[]⟩, 0, unsV s (p + 1) 2, 0⟩ : Cn))), Value.int IntKind.i64 (Cn.a ((⟨unsV s p 1, ⟨#[]⟩, 0, unsV s (p + 1) 2, 0⟩ : Cn))), Value.int IntKind.i64 (Cn.b ((⟨unsV s p 1, ⟨#[]⟩, 0, unsV s (p + 1) 2, 0⟩ : Cn)))]), .int .i64 (p + 1 + 4), .int .i64 (unsE s (p + 1) 2)]) ?_ rfl ⟨⟨unsV s p 1, ⟨#[]⟩, 0, unsV s (p + 1) 2, 0⟩, p + 1 + 4, by rw [g], fun h => absurd (g.symm.trans h) (eqF (by with_reducible assumption)), below_al (below_al hB _) _⟩
    simp [results, Tryz.f54, go_sem, set_same, *]
  · have g := dw_u (s := s) (p := p) (bneF (by with_reducible assumption)) (kn_no (by with_reducible assumption) (by with_reducible assumption) (by with_reducible assumption) (by with_reducible assumption) (by with_reducible assumption) (by with_reducible assumption) (by with_reducible assumption) (by with_reducible assumption) (by with_reducible assumption))
    refine bodyPost_ret (v := .tuple #[(Value.agg #[Value.int IntKind.i64 (Cn.t ((⟨unsV s p 1, ⟨#[]⟩, 0, 0, 0⟩ : Cn))), Value.string (Cn.s ((⟨unsV s p 1, ⟨#[]⟩, 0, 0, 0⟩ : Cn))), Value.int IntKind.i64 (Cn.n ((⟨unsV s p 1, ⟨#[]⟩, 0, 0, 0⟩ : Cn))), Value.int IntKind.i64 (Cn.a ((⟨unsV s p 1, ⟨#[]⟩, 0, 0, 0⟩ : Cn))), Value.int IntKind.i64 (Cn.b ((⟨unsV s p 1, ⟨#[]⟩, 0, 0, 0⟩ : Cn)))]), .int .i64 (p + 1), .int .i64 (11)]) ?_ rfl ⟨⟨unsV s p 1, ⟨#[]⟩, 0, 0, 0⟩, p + 1, by rw [g], fun h => absurd (g.symm.trans h) (by decide), below_al (below_al hB _) _⟩
    simp [results, Tryz.f54, go_sem, set_same, *]

end Go.Proofs.YthfegbhbokhlkaaGreatDoor

/- PcTake -/
/- Layer 6: one constant read, in the reference. -/
namespace Go.Proofs.YthfegbhbokhlkaaGreatDoor
open Go.ChangeShapes Go.WideShapes Go.ChangeAt Go.RowKit Go.PlainAid
set_option linter.unusedSimpArgs false
set_option linter.unusedVariables false

def nbN (s : ByteArray) (p z : Int) : Int := if unsE s p z = 0 then p + z else 0
theorem nb_ok {s : ByteArray} {p z : Int} (h : unsE s p z = 0) : nbN s p z = p + z := by unfold nbN; rw [if_pos h]
theorem nb_no {s : ByteArray} {p z : Int} (h : ¬ unsE s p z = 0) : nbN s p z = 0 ∧ unsV s p z = 0 := by unfold nbN unsV; rw [if_neg h, if_neg h]; exact ⟨rfl, rfl⟩
theorem sg_no {s : ByteArray} {p z : Int} (hz : okSize z) (h : ¬ unsE s p z = 0) : sigV s p z = 0 := by
  unfold sigV; rw [(nb_no h).2]
  rcases hz with rfl | rfl | rfl | rfl <;> decide
theorem gs_e {s : ByteArray} {p : Int} (hp : 0 ≤ p ∧ p ≤ s.size) : gsE s p = 0 ∨ gsE s p = 3 := by
  unfold gsE
  rcases un_e hp ok2 with h | h <;> rw [h]
  · rw [if_neg (by decide)]
    split
    · exact Or.inr rfl
    · exact Or.inl rfl
  · rw [if_pos (by decide)]; exact Or.inr rfl
theorem numU_any (s : ByteArray) (p z : Int) (hz : okSize z) (hs : s.size ≤ 140737488355328) (hp : 0 ≤ p ∧ p ≤ s.size) (w : World) :
    Calls Tryz.prog 55 #[.string s, .int .i64 p, .int .i64 z, .bool false] w fun e w' => e = .returned (.tuple #[.int .i64 (unsV s p z), .int .i64 (nbN s p z), .int .i64 (unsE s p z)]) ∧ w = w' := by
  obtain ⟨hp0, hp1⟩ := hp
  have hz' : 1 ≤ z ∧ z ≤ 8 := by rcases hz with rfl | rfl | rfl | rfl <;> omega
  obtain ⟨z0, z1⟩ := hz'
  rcases un_e ⟨hp0, hp1⟩ hz with h | h
  · have g := nb_ok h
    have hle := (un_0 hz h).2
    go_enter Tryz.func55, Tryz.ntmps55
    go_wp2_with (first | (go_at_call 57; refine (runs_any s _ _ (by omega) _).mono ?_; rintro e w' ⟨rfl, rfl⟩) | (go_at_call 67; refine (rsigned_any s _ _ (by omega) _).mono ?_; rintro e w' ⟨rfl, rfl⟩))
    go_ret3
    exact ⟨by rw [g, h]; rfl, rfl⟩
  · have g := nb_no (s := s) (p := p) (z := z) (by omega)
    go_enter Tryz.func55, Tryz.ntmps55
    go_wp2_with (first | (go_at_call 57; refine (runs_any s _ _ (by omega) _).mono ?_; rintro e w' ⟨rfl, rfl⟩) | (go_at_call 67; refine (rsigned_any s _ _ (by omega) _).mono ?_; rintro e w' ⟨rfl, rfl⟩))
    go_ret3
    exact ⟨by rw [g.1, g.2, h]; rfl, rfl⟩
theorem numS_any (s : ByteArray) (p z : Int) (hz : okSize z) (hs : s.size ≤ 140737488355328) (hp : 0 ≤ p ∧ p ≤ s.size) (w : World) :
    Calls Tryz.prog 55 #[.string s, .int .i64 p, .int .i64 z, .bool true] w fun e w' => e = .returned (.tuple #[.int .i64 (sigV s p z), .int .i64 (nbN s p z), .int .i64 (unsE s p z)]) ∧ w = w' := by
  obtain ⟨hp0, hp1⟩ := hp
  have hz' : 1 ≤ z ∧ z ≤ 8 := by rcases hz with rfl | rfl | rfl | rfl <;> omega
  obtain ⟨z0, z1⟩ := hz'
  rcases un_e ⟨hp0, hp1⟩ hz with h | h
  · have g := nb_ok h
    have hle := (un_0 hz h).2
    go_enter Tryz.func55, Tryz.ntmps55
    go_wp2_with (first | (go_at_call 57; refine (runs_any s _ _ (by omega) _).mono ?_; rintro e w' ⟨rfl, rfl⟩) | (go_at_call 67; refine (rsigned_any s _ _ (by omega) _).mono ?_; rintro e w' ⟨rfl, rfl⟩))
    go_ret3
    exact ⟨by rw [g, h]; rfl, rfl⟩
  · have g := nb_no (s := s) (p := p) (z := z) (by omega)
    have g2 := sg_no hz (s := s) (p := p) (by omega)
    go_enter Tryz.func55, Tryz.ntmps55
    go_wp2_with (first | (go_at_call 57; refine (runs_any s _ _ (by omega) _).mono ?_; rintro e w' ⟨rfl, rfl⟩) | (go_at_call 67; refine (rsigned_any s _ _ (by omega) _).mono ?_; rintro e w' ⟨rfl, rfl⟩))
    go_ret3
    exact ⟨by rw [g.1, g2, h]; rfl, rfl⟩

theorem numU_ok (s : ByteArray) (p z : Int) (hz : okSize z) (hs : s.size ≤ 140737488355328) (h : unsE s p z = 0) (w : World) :
    Calls Tryz.prog 55 #[.string s, .int .i64 p, .int .i64 z, .bool false] w fun e w' => e = .returned (.tuple #[.int .i64 (unsV s p z), .int .i64 (p + z), .int .i64 0]) ∧ w = w' := by
  have hl := un_0 hz h
  have hz' : 1 ≤ z := by rcases hz with rfl | rfl | rfl | rfl <;> omega
  have g := numU_any s p z hz hs ⟨hl.1, by omega⟩ w
  rwa [nb_ok h, h] at g
theorem numS_ok (s : ByteArray) (p z : Int) (hz : okSize z) (hs : s.size ≤ 140737488355328) (h : unsE s p z = 0) (w : World) :
    Calls Tryz.prog 55 #[.string s, .int .i64 p, .int .i64 z, .bool true] w fun e w' => e = .returned (.tuple #[.int .i64 (sigV s p z), .int .i64 (p + z), .int .i64 0]) ∧ w = w' := by
  have hl := un_0 hz h
  have hz' : 1 ≤ z := by rcases hz with rfl | rfl | rfl | rfl <;> omega
  have g := numS_any s p z hz hs ⟨hl.1, by omega⟩ w
  rwa [nb_ok h, h] at g
theorem numU_no (s : ByteArray) (p z : Int) (hz : okSize z) (hs : s.size ≤ 140737488355328) (hp : 0 ≤ p ∧ p ≤ s.size) (h : unsE s p z = 3) (w : World) :
    Calls Tryz.prog 55 #[.string s, .int .i64 p, .int .i64 z, .bool false] w fun e w' => e = .returned (.tuple #[.int .i64 0, .int .i64 0, .int .i64 3]) ∧ w = w' := by
  have g := numU_any s p z hz hs hp w
  have g2 := nb_no (s := s) (p := p) (z := z) (by omega)
  rwa [g2.1, g2.2, h] at g
theorem numS_no (s : ByteArray) (p z : Int) (hz : okSize z) (hs : s.size ≤ 140737488355328) (hp : 0 ≤ p ∧ p ≤ s.size) (h : unsE s p z = 3) (w : World) :
    Calls Tryz.prog 55 #[.string s, .int .i64 p, .int .i64 z, .bool true] w fun e w' => e = .returned (.tuple #[.int .i64 0, .int .i64 0, .int .i64 3]) ∧ w = w' := by
  have g := numS_any s p z hz hs hp w
  have g2 := nb_no (s := s) (p := p) (z := z) (by omega)
  have g3 := sg_no hz (s := s) (p := p) (by omega)
  rwa [g2.1, g3, h] at g

set_option maxRecDepth 100000 in
theorem tk_e (s : ByteArray) (p : Int) (hs : s.size ≤ 140737488355328) (hp : 0 ≤ p ∧ p ≤ s.size) (h0 : unsE s p 1 = 3)  (w : World) : Calls Tryz.prog 56 #[.string s, .int .i64 p] w (DcRet w s p) := by
  have hB : Below w.heap.size w w := Below.refl _ _
  have g : dcE s p = 3 := by rw [dw_0 (by omega), h0]
  go_enter Tryz.func56, Tryz.ntmps56
  go_wp2_with (first | (go_at_call 55; (with_reducible refine (numU_no s p 1 ok1 hs hp h0 _).mono ?_); rintro e w' ⟨rfl, rfl⟩))
  refine bodyPost_ret (v := .tuple #[(Value.agg #[Value.int IntKind.i64 (Cn.t ((⟨0, ⟨#[]⟩, 0, 0, 0⟩ : Cn))), Value.string (Cn.s ((⟨0, ⟨#[]⟩, 0, 0, 0⟩ : Cn))), Value.int IntKind.i64 (Cn.n ((⟨0, ⟨#[]⟩, 0, 0, 0⟩ : Cn))), Value.int IntKind.i64 (Cn.a ((⟨0, ⟨#[]⟩, 0, 0, 0⟩ : Cn))), Value.int IntKind.i64 (Cn.b ((⟨0, ⟨#[]⟩, 0, 0, 0⟩ : Cn)))]), .int .i64 (0), .int .i64 3]) ?_ rfl ⟨⟨0, ⟨#[]⟩, 0, 0, 0⟩, 0, by rw [g], fun h => absurd (g.symm.trans h) (by decide), below_al (below_al hB _) _⟩
  simp [results, Tryz.f56, go_sem, set_same, *]
set_option maxRecDepth 100000 in
theorem tk_1 (s : ByteArray) (p : Int) (hs : s.size ≤ 140737488355328) (hp : 0 ≤ p ∧ p ≤ s.size) (h0 : unsE s p 1 = 0) (hv : unsV s p 1 = 1) (h1 : gsE s (p + 1) = 0) (w : World) : Calls Tryz.prog 56 #[.string s, .int .i64 p] w (DcRet w s p) := by
  have hB : Below w.heap.size w w := Below.refl _ _
  have hl := un_0 ok1 h0
  have g := dw_1 h0 hv
  rw [hv] at g
  have e0 : dcE s p = 0 := by rw [g.1]; exact h1
  have G := Lib.hid g
  clear g
  go_enter Tryz.func56, Tryz.ntmps56
  go_wp2_with (first | (go_at_call 55; (with_reducible refine (numU_ok s p 1 ok1 hs h0 _).mono ?_); rintro e w' ⟨rfl, rfl⟩) | (go_at_call 68; (with_reducible refine (rgets_any s (p + 1) (by omega) _).mono ?_); rintro e w' ⟨rfl, rfl⟩))
  refine bodyPost_ret (v := .tuple #[(Value.agg #[Value.int IntKind.i64 (Cn.t ((⟨1, gsB s (p + 1), 0, 0, 0⟩ : Cn))), Value.string (Cn.s ((⟨1, gsB s (p + 1), 0, 0, 0⟩ : Cn))), Value.int IntKind.i64 (Cn.n ((⟨1, gsB s (p + 1), 0, 0, 0⟩ : Cn))), Value.int IntKind.i64 (Cn.a ((⟨1, gsB s (p + 1), 0, 0, 0⟩ : Cn))), Value.int IntKind.i64 (Cn.b ((⟨1, gsB s (p + 1), 0, 0, 0⟩ : Cn)))]), .int .i64 (gsN s (p + 1)), .int .i64 0]) ?_ rfl ⟨⟨1, gsB s (p + 1), 0, 0, 0⟩, gsN s (p + 1), by rw [e0], fun _ => ⟨G.out.2.1.symm, by rw [G.out.2.2]⟩, below_al (below_al hB _) _⟩
  simp [results, Tryz.f56, go_sem, set_same, *]
set_option maxRecDepth 100000 in
theorem tk_1n (s : ByteArray) (p : Int) (hs : s.size ≤ 140737488355328) (hp : 0 ≤ p ∧ p ≤ s.size) (h0 : unsE s p 1 = 0) (hv : unsV s p 1 = 1) (h1 : gsE s (p + 1) = 3) (w : World) : Calls Tryz.prog 56 #[.string s, .int .i64 p] w (DcRet w s p) := by
  have hB : Below w.heap.size w w := Below.refl _ _
  have hl := un_0 ok1 h0
  have e0 : dcE s p = 3 := (dw_1 h0 hv).1.trans h1
  have G := Lib.hid e0
  clear e0
  go_enter Tryz.func56, Tryz.ntmps56
  go_wp2_with (first | (go_at_call 55; (with_reducible refine (numU_ok s p 1 ok1 hs h0 _).mono ?_); rintro e w' ⟨rfl, rfl⟩) | (go_at_call 68; (with_reducible refine (rgets_any s (p + 1) (by omega) _).mono ?_); rintro e w' ⟨rfl, rfl⟩))
  refine bodyPost_ret (v := .tuple #[(Value.agg #[Value.int IntKind.i64 (Cn.t ((⟨1, gsB s (p + 1), 0, 0, 0⟩ : Cn))), Value.string (Cn.s ((⟨1, gsB s (p + 1), 0, 0, 0⟩ : Cn))), Value.int IntKind.i64 (Cn.n ((⟨1, gsB s (p + 1), 0, 0, 0⟩ : Cn))), Value.int IntKind.i64 (Cn.a ((⟨1, gsB s (p + 1), 0, 0, 0⟩ : Cn))), Value.int IntKind.i64 (Cn.b ((⟨1, gsB s (p + 1), 0, 0, 0⟩ : Cn)))]), .int .i64 0, .int .i64 3]) ?_ rfl ⟨⟨1, gsB s (p + 1), 0, 0, 0⟩, 0, by rw [G.out], fun h => absurd (G.out.symm.trans h) (by decide), below_al (below_al hB _) _⟩
  simp [results, Tryz.f56, go_sem, set_same, *]
set_option maxRecDepth 100000 in
theorem tk_3 (s : ByteArray) (p : Int) (hs : s.size ≤ 140737488355328) (hp : 0 ≤ p ∧ p ≤ s.size) (h0 : unsE s p 1 = 0) (hv : unsV s p 1 = 3) (h1 : unsE s (p + 1) 4 = 0) (w : World) : Calls Tryz.prog 56 #[.string s, .int .i64 p] w (DcRet w s p) := by
  have hB : Below w.heap.size w w := Below.refl _ _
  have hl := un_0 ok1 h0
  have g := dw_3 h0 hv
  rw [hv] at g
  have e0 : dcE s p = 0 := by rw [g.1]; exact h1
  have G := Lib.hid g
  clear g
  go_enter Tryz.func56, Tryz.ntmps56
  go_wp2_with (first | (go_at_call 55; (with_reducible refine (numU_ok s p 1 ok1 hs h0 _).mono ?_); rintro e w' ⟨rfl, rfl⟩) | (go_at_call 55; (with_reducible refine (numS_ok s (p + 1) 4 ok4 hs h1 _).mono ?_); rintro e w' ⟨rfl, rfl⟩))
  refine bodyPost_ret (v := .tuple #[(Value.agg #[Value.int IntKind.i64 (Cn.t ((⟨3, ⟨#[]⟩, sigV s (p + 1) 4, 0, 0⟩ : Cn))), Value.string (Cn.s ((⟨3, ⟨#[]⟩, sigV s (p + 1) 4, 0, 0⟩ : Cn))), Value.int IntKind.i64 (Cn.n ((⟨3, ⟨#[]⟩, sigV s (p + 1) 4, 0, 0⟩ : Cn))), Value.int IntKind.i64 (Cn.a ((⟨3, ⟨#[]⟩, sigV s (p + 1) 4, 0, 0⟩ : Cn))), Value.int IntKind.i64 (Cn.b ((⟨3, ⟨#[]⟩, sigV s (p + 1) 4, 0, 0⟩ : Cn)))]), .int .i64 (p + 1 + 4), .int .i64 0]) ?_ rfl ⟨⟨3, ⟨#[]⟩, sigV s (p + 1) 4, 0, 0⟩, p + 1 + 4, by rw [e0], fun _ => ⟨G.out.2.1.symm, by rw [G.out.2.2]; omega⟩, below_al (below_al hB _) _⟩
  simp [results, Tryz.f56, go_sem, set_same, *]
set_option maxRecDepth 100000 in
theorem tk_3n (s : ByteArray) (p : Int) (hs : s.size ≤ 140737488355328) (hp : 0 ≤ p ∧ p ≤ s.size) (h0 : unsE s p 1 = 0) (hv : unsV s p 1 = 3) (h1 : unsE s (p + 1) 4 = 3) (w : World) : Calls Tryz.prog 56 #[.string s, .int .i64 p] w (DcRet w s p) := by
  have hB : Below w.heap.size w w := Below.refl _ _
  have hl := un_0 ok1 h0
  have e0 : dcE s p = 3 := (dw_3 h0 hv).1.trans h1
  have G := Lib.hid e0
  clear e0
  go_enter Tryz.func56, Tryz.ntmps56
  go_wp2_with (first | (go_at_call 55; (with_reducible refine (numU_ok s p 1 ok1 hs h0 _).mono ?_); rintro e w' ⟨rfl, rfl⟩) | (go_at_call 55; (with_reducible refine (numS_no s (p + 1) 4 ok4 hs (by omega) h1 _).mono ?_); rintro e w' ⟨rfl, rfl⟩))
  refine bodyPost_ret (v := .tuple #[(Value.agg #[Value.int IntKind.i64 (Cn.t ((⟨3, ⟨#[]⟩, 0, 0, 0⟩ : Cn))), Value.string (Cn.s ((⟨3, ⟨#[]⟩, 0, 0, 0⟩ : Cn))), Value.int IntKind.i64 (Cn.n ((⟨3, ⟨#[]⟩, 0, 0, 0⟩ : Cn))), Value.int IntKind.i64 (Cn.a ((⟨3, ⟨#[]⟩, 0, 0, 0⟩ : Cn))), Value.int IntKind.i64 (Cn.b ((⟨3, ⟨#[]⟩, 0, 0, 0⟩ : Cn)))]), .int .i64 0, .int .i64 3]) ?_ rfl ⟨⟨3, ⟨#[]⟩, 0, 0, 0⟩, 0, by rw [G.out], fun h => absurd (G.out.symm.trans h) (by decide), below_al (below_al hB _) _⟩
  simp [results, Tryz.f56, go_sem, set_same, *]
set_option maxRecDepth 100000 in
theorem tk_5 (s : ByteArray) (p : Int) (hs : s.size ≤ 140737488355328) (hp : 0 ≤ p ∧ p ≤ s.size) (h0 : unsE s p 1 = 0) (hv : unsV s p 1 = 5) (h1 : unsE s (p + 1) 8 = 0) (w : World) : Calls Tryz.prog 56 #[.string s, .int .i64 p] w (DcRet w s p) := by
  have hB : Below w.heap.size w w := Below.refl _ _
  have hl := un_0 ok1 h0
  have g := dw_5 h0 hv
  rw [hv] at g
  have e0 : dcE s p = 0 := by rw [g.1]; exact h1
  have G := Lib.hid g
  clear g
  go_enter Tryz.func56, Tryz.ntmps56
  go_wp2_with (first | (go_at_call 55; (with_reducible refine (numU_ok s p 1 ok1 hs h0 _).mono ?_); rintro e w' ⟨rfl, rfl⟩) | (go_at_call 55; (with_reducible refine (numS_ok s (p + 1) 8 ok8 hs h1 _).mono ?_); rintro e w' ⟨rfl, rfl⟩))
  refine bodyPost_ret (v := .tuple #[(Value.agg #[Value.int IntKind.i64 (Cn.t ((⟨5, ⟨#[]⟩, sigV s (p + 1) 8, 0, 0⟩ : Cn))), Value.string (Cn.s ((⟨5, ⟨#[]⟩, sigV s (p + 1) 8, 0, 0⟩ : Cn))), Value.int IntKind.i64 (Cn.n ((⟨5, ⟨#[]⟩, sigV s (p + 1) 8, 0, 0⟩ : Cn))), Value.int IntKind.i64 (Cn.a ((⟨5, ⟨#[]⟩, sigV s (p + 1) 8, 0, 0⟩ : Cn))), Value.int IntKind.i64 (Cn.b ((⟨5, ⟨#[]⟩, sigV s (p + 1) 8, 0, 0⟩ : Cn)))]), .int .i64 (p + 1 + 8), .int .i64 0]) ?_ rfl ⟨⟨5, ⟨#[]⟩, sigV s (p + 1) 8, 0, 0⟩, p + 1 + 8, by rw [e0], fun _ => ⟨G.out.2.1.symm, by rw [G.out.2.2]; omega⟩, below_al (below_al hB _) _⟩
  simp [results, Tryz.f56, go_sem, set_same, *]
set_option maxRecDepth 100000 in
theorem tk_5n (s : ByteArray) (p : Int) (hs : s.size ≤ 140737488355328) (hp : 0 ≤ p ∧ p ≤ s.size) (h0 : unsE s p 1 = 0) (hv : unsV s p 1 = 5) (h1 : unsE s (p + 1) 8 = 3) (w : World) : Calls Tryz.prog 56 #[.string s, .int .i64 p] w (DcRet w s p) := by
  have hB : Below w.heap.size w w := Below.refl _ _
  have hl := un_0 ok1 h0
  have e0 : dcE s p = 3 := (dw_5 h0 hv).1.trans h1
  have G := Lib.hid e0
  clear e0
  go_enter Tryz.func56, Tryz.ntmps56
  go_wp2_with (first | (go_at_call 55; (with_reducible refine (numU_ok s p 1 ok1 hs h0 _).mono ?_); rintro e w' ⟨rfl, rfl⟩) | (go_at_call 55; (with_reducible refine (numS_no s (p + 1) 8 ok8 hs (by omega) h1 _).mono ?_); rintro e w' ⟨rfl, rfl⟩))
  refine bodyPost_ret (v := .tuple #[(Value.agg #[Value.int IntKind.i64 (Cn.t ((⟨5, ⟨#[]⟩, 0, 0, 0⟩ : Cn))), Value.string (Cn.s ((⟨5, ⟨#[]⟩, 0, 0, 0⟩ : Cn))), Value.int IntKind.i64 (Cn.n ((⟨5, ⟨#[]⟩, 0, 0, 0⟩ : Cn))), Value.int IntKind.i64 (Cn.a ((⟨5, ⟨#[]⟩, 0, 0, 0⟩ : Cn))), Value.int IntKind.i64 (Cn.b ((⟨5, ⟨#[]⟩, 0, 0, 0⟩ : Cn)))]), .int .i64 0, .int .i64 3]) ?_ rfl ⟨⟨5, ⟨#[]⟩, 0, 0, 0⟩, 0, by rw [G.out], fun h => absurd (G.out.symm.trans h) (by decide), below_al (below_al hB _) _⟩
  simp [results, Tryz.f56, go_sem, set_same, *]
set_option maxRecDepth 100000 in
theorem tk_7 (s : ByteArray) (p : Int) (hs : s.size ≤ 140737488355328) (hp : 0 ≤ p ∧ p ≤ s.size) (h0 : unsE s p 1 = 0) (hv : unsV s p 1 = 7) (h1 : unsE s (p + 1) 2 = 0) (w : World) : Calls Tryz.prog 56 #[.string s, .int .i64 p] w (DcRet w s p) := by
  have hB : Below w.heap.size w w := Below.refl _ _
  have hl := un_0 ok1 h0
  have g := dw_7 h0 (Or.inl hv)
  rw [hv] at g
  have e0 : dcE s p = 0 := by rw [g.1]; exact h1
  have G := Lib.hid g
  clear g
  go_enter Tryz.func56, Tryz.ntmps56
  go_wp2_with (first | (go_at_call 55; (with_reducible refine (numU_ok s p 1 ok1 hs h0 _).mono ?_); rintro e w' ⟨rfl, rfl⟩) | (go_at_call 55; (with_reducible refine (numU_ok s (p + 1) 2 ok2 hs h1 _).mono ?_); rintro e w' ⟨rfl, rfl⟩))
  refine bodyPost_ret (v := .tuple #[(Value.agg #[Value.int IntKind.i64 (Cn.t ((⟨7, ⟨#[]⟩, 0, unsV s (p + 1) 2, 0⟩ : Cn))), Value.string (Cn.s ((⟨7, ⟨#[]⟩, 0, unsV s (p + 1) 2, 0⟩ : Cn))), Value.int IntKind.i64 (Cn.n ((⟨7, ⟨#[]⟩, 0, unsV s (p + 1) 2, 0⟩ : Cn))), Value.int IntKind.i64 (Cn.a ((⟨7, ⟨#[]⟩, 0, unsV s (p + 1) 2, 0⟩ : Cn))), Value.int IntKind.i64 (Cn.b ((⟨7, ⟨#[]⟩, 0, unsV s (p + 1) 2, 0⟩ : Cn)))]), .int .i64 (p + 1 + 2), .int .i64 0]) ?_ rfl ⟨⟨7, ⟨#[]⟩, 0, unsV s (p + 1) 2, 0⟩, p + 1 + 2, by rw [e0], fun _ => ⟨G.out.2.1.symm, by rw [G.out.2.2]; omega⟩, below_al (below_al hB _) _⟩
  simp [results, Tryz.f56, go_sem, set_same, *]
set_option maxRecDepth 100000 in
theorem tk_7n (s : ByteArray) (p : Int) (hs : s.size ≤ 140737488355328) (hp : 0 ≤ p ∧ p ≤ s.size) (h0 : unsE s p 1 = 0) (hv : unsV s p 1 = 7) (h1 : unsE s (p + 1) 2 = 3) (w : World) : Calls Tryz.prog 56 #[.string s, .int .i64 p] w (DcRet w s p) := by
  have hB : Below w.heap.size w w := Below.refl _ _
  have hl := un_0 ok1 h0
  have e0 : dcE s p = 3 := (dw_7 h0 (Or.inl hv)).1.trans h1
  have G := Lib.hid e0
  clear e0
  go_enter Tryz.func56, Tryz.ntmps56
  go_wp2_with (first | (go_at_call 55; (with_reducible refine (numU_ok s p 1 ok1 hs h0 _).mono ?_); rintro e w' ⟨rfl, rfl⟩) | (go_at_call 55; (with_reducible refine (numU_no s (p + 1) 2 ok2 hs (by omega) h1 _).mono ?_); rintro e w' ⟨rfl, rfl⟩))
  refine bodyPost_ret (v := .tuple #[(Value.agg #[Value.int IntKind.i64 (Cn.t ((⟨7, ⟨#[]⟩, 0, 0, 0⟩ : Cn))), Value.string (Cn.s ((⟨7, ⟨#[]⟩, 0, 0, 0⟩ : Cn))), Value.int IntKind.i64 (Cn.n ((⟨7, ⟨#[]⟩, 0, 0, 0⟩ : Cn))), Value.int IntKind.i64 (Cn.a ((⟨7, ⟨#[]⟩, 0, 0, 0⟩ : Cn))), Value.int IntKind.i64 (Cn.b ((⟨7, ⟨#[]⟩, 0, 0, 0⟩ : Cn)))]), .int .i64 0, .int .i64 3]) ?_ rfl ⟨⟨7, ⟨#[]⟩, 0, 0, 0⟩, 0, by rw [G.out], fun h => absurd (G.out.symm.trans h) (by decide), below_al (below_al hB _) _⟩
  simp [results, Tryz.f56, go_sem, set_same, *]
set_option maxRecDepth 100000 in
theorem tk_8 (s : ByteArray) (p : Int) (hs : s.size ≤ 140737488355328) (hp : 0 ≤ p ∧ p ≤ s.size) (h0 : unsE s p 1 = 0) (hv : unsV s p 1 = 8) (h1 : unsE s (p + 1) 2 = 0) (w : World) : Calls Tryz.prog 56 #[.string s, .int .i64 p] w (DcRet w s p) := by
  have hB : Below w.heap.size w w := Below.refl _ _
  have hl := un_0 ok1 h0
  have g := dw_7 h0 (Or.inr hv)
  rw [hv] at g
  have e0 : dcE s p = 0 := by rw [g.1]; exact h1
  have G := Lib.hid g
  clear g
  go_enter Tryz.func56, Tryz.ntmps56
  go_wp2_with (first | (go_at_call 55; (with_reducible refine (numU_ok s p 1 ok1 hs h0 _).mono ?_); rintro e w' ⟨rfl, rfl⟩) | (go_at_call 55; (with_reducible refine (numU_ok s (p + 1) 2 ok2 hs h1 _).mono ?_); rintro e w' ⟨rfl, rfl⟩))
  refine bodyPost_ret (v := .tuple #[(Value.agg #[Value.int IntKind.i64 (Cn.t ((⟨8, ⟨#[]⟩, 0, unsV s (p + 1) 2, 0⟩ : Cn))), Value.string (Cn.s ((⟨8, ⟨#[]⟩, 0, unsV s (p + 1) 2, 0⟩ : Cn))), Value.int IntKind.i64 (Cn.n ((⟨8, ⟨#[]⟩, 0, unsV s (p + 1) 2, 0⟩ : Cn))), Value.int IntKind.i64 (Cn.a ((⟨8, ⟨#[]⟩, 0, unsV s (p + 1) 2, 0⟩ : Cn))), Value.int IntKind.i64 (Cn.b ((⟨8, ⟨#[]⟩, 0, unsV s (p + 1) 2, 0⟩ : Cn)))]), .int .i64 (p + 1 + 2), .int .i64 0]) ?_ rfl ⟨⟨8, ⟨#[]⟩, 0, unsV s (p + 1) 2, 0⟩, p + 1 + 2, by rw [e0], fun _ => ⟨G.out.2.1.symm, by rw [G.out.2.2]; omega⟩, below_al (below_al hB _) _⟩
  simp [results, Tryz.f56, go_sem, set_same, *]
set_option maxRecDepth 100000 in
theorem tk_8n (s : ByteArray) (p : Int) (hs : s.size ≤ 140737488355328) (hp : 0 ≤ p ∧ p ≤ s.size) (h0 : unsE s p 1 = 0) (hv : unsV s p 1 = 8) (h1 : unsE s (p + 1) 2 = 3) (w : World) : Calls Tryz.prog 56 #[.string s, .int .i64 p] w (DcRet w s p) := by
  have hB : Below w.heap.size w w := Below.refl _ _
  have hl := un_0 ok1 h0
  have e0 : dcE s p = 3 := (dw_7 h0 (Or.inr hv)).1.trans h1
  have G := Lib.hid e0
  clear e0
  go_enter Tryz.func56, Tryz.ntmps56
  go_wp2_with (first | (go_at_call 55; (with_reducible refine (numU_ok s p 1 ok1 hs h0 _).mono ?_); rintro e w' ⟨rfl, rfl⟩) | (go_at_call 55; (with_reducible refine (numU_no s (p + 1) 2 ok2 hs (by omega) h1 _).mono ?_); rintro e w' ⟨rfl, rfl⟩))
  refine bodyPost_ret (v := .tuple #[(Value.agg #[Value.int IntKind.i64 (Cn.t ((⟨8, ⟨#[]⟩, 0, 0, 0⟩ : Cn))), Value.string (Cn.s ((⟨8, ⟨#[]⟩, 0, 0, 0⟩ : Cn))), Value.int IntKind.i64 (Cn.n ((⟨8, ⟨#[]⟩, 0, 0, 0⟩ : Cn))), Value.int IntKind.i64 (Cn.a ((⟨8, ⟨#[]⟩, 0, 0, 0⟩ : Cn))), Value.int IntKind.i64 (Cn.b ((⟨8, ⟨#[]⟩, 0, 0, 0⟩ : Cn)))]), .int .i64 0, .int .i64 3]) ?_ rfl ⟨⟨8, ⟨#[]⟩, 0, 0, 0⟩, 0, by rw [G.out], fun h => absurd (G.out.symm.trans h) (by decide), below_al (below_al hB _) _⟩
  simp [results, Tryz.f56, go_sem, set_same, *]
set_option maxRecDepth 100000 in
theorem tk_9 (s : ByteArray) (p : Int) (hs : s.size ≤ 140737488355328) (hp : 0 ≤ p ∧ p ≤ s.size) (h0 : unsE s p 1 = 0) (hv : unsV s p 1 = 9) (h1 : unsE s (p + 1) 2 = 0) (h2 : unsE s (p + 1 + 2) 2 = 0) (w : World) : Calls Tryz.prog 56 #[.string s, .int .i64 p] w (DcRet w s p) := by
  have hB : Below w.heap.size w w := Below.refl _ _
  have hl := un_0 ok1 h0
  have g := dw_m h0 (by rw [hv]; decide) h1
  rw [show p + 3 = p + 1 + 2 by omega] at g
  rw [hv] at g
  have e0 : dcE s p = 0 := by rw [g.1]; exact h2
  have G := Lib.hid g
  clear g
  go_enter Tryz.func56, Tryz.ntmps56
  go_wp2_with (first | (go_at_call 55; (with_reducible refine (numU_ok s p 1 ok1 hs h0 _).mono ?_); rintro e w' ⟨rfl, rfl⟩) | (go_at_call 55; (with_reducible refine (numU_ok s (p + 1) 2 ok2 hs h1 _).mono ?_); rintro e w' ⟨rfl, rfl⟩) | (go_at_call 55; (with_reducible refine (numU_ok s (p + 1 + 2) 2 ok2 hs h2 _).mono ?_); rintro e w' ⟨rfl, rfl⟩))
  refine bodyPost_ret (v := .tuple #[(Value.agg #[Value.int IntKind.i64 (Cn.t ((⟨9, ⟨#[]⟩, 0, unsV s (p + 1) 2, unsV s (p + 1 + 2) 2⟩ : Cn))), Value.string (Cn.s ((⟨9, ⟨#[]⟩, 0, unsV s (p + 1) 2, unsV s (p + 1 + 2) 2⟩ : Cn))), Value.int IntKind.i64 (Cn.n ((⟨9, ⟨#[]⟩, 0, unsV s (p + 1) 2, unsV s (p + 1 + 2) 2⟩ : Cn))), Value.int IntKind.i64 (Cn.a ((⟨9, ⟨#[]⟩, 0, unsV s (p + 1) 2, unsV s (p + 1 + 2) 2⟩ : Cn))), Value.int IntKind.i64 (Cn.b ((⟨9, ⟨#[]⟩, 0, unsV s (p + 1) 2, unsV s (p + 1 + 2) 2⟩ : Cn)))]), .int .i64 (p + 1 + 2 + 2), .int .i64 0]) ?_ rfl ⟨⟨9, ⟨#[]⟩, 0, unsV s (p + 1) 2, unsV s (p + 1 + 2) 2⟩, p + 1 + 2 + 2, by rw [e0], fun _ => ⟨G.out.2.1.symm, by rw [G.out.2.2]; omega⟩, below_al (below_al hB _) _⟩
  simp [results, Tryz.f56, go_sem, set_same, *]
set_option maxRecDepth 100000 in
theorem tk_9m (s : ByteArray) (p : Int) (hs : s.size ≤ 140737488355328) (hp : 0 ≤ p ∧ p ≤ s.size) (h0 : unsE s p 1 = 0) (hv : unsV s p 1 = 9) (h1 : unsE s (p + 1) 2 = 0) (h2 : unsE s (p + 1 + 2) 2 = 3) (w : World) : Calls Tryz.prog 56 #[.string s, .int .i64 p] w (DcRet w s p) := by
  have hB : Below w.heap.size w w := Below.refl _ _
  have hl := un_0 ok1 h0
  have e0 : dcE s p = 3 := (dw_m h0 (by rw [hv]; decide) h1).1.trans (by rw [show p + 3 = p + 1 + 2 by omega]; exact h2)
  have G := Lib.hid e0
  clear e0
  go_enter Tryz.func56, Tryz.ntmps56
  go_wp2_with (first | (go_at_call 55; (with_reducible refine (numU_ok s p 1 ok1 hs h0 _).mono ?_); rintro e w' ⟨rfl, rfl⟩) | (go_at_call 55; (with_reducible refine (numU_ok s (p + 1) 2 ok2 hs h1 _).mono ?_); rintro e w' ⟨rfl, rfl⟩) | (go_at_call 55; (with_reducible refine (numU_no s (p + 1 + 2) 2 ok2 hs (by have := (un_0 ok2 h1).2; omega) h2 _).mono ?_); rintro e w' ⟨rfl, rfl⟩))
  refine bodyPost_ret (v := .tuple #[(Value.agg #[Value.int IntKind.i64 (Cn.t ((⟨9, ⟨#[]⟩, 0, unsV s (p + 1) 2, 0⟩ : Cn))), Value.string (Cn.s ((⟨9, ⟨#[]⟩, 0, unsV s (p + 1) 2, 0⟩ : Cn))), Value.int IntKind.i64 (Cn.n ((⟨9, ⟨#[]⟩, 0, unsV s (p + 1) 2, 0⟩ : Cn))), Value.int IntKind.i64 (Cn.a ((⟨9, ⟨#[]⟩, 0, unsV s (p + 1) 2, 0⟩ : Cn))), Value.int IntKind.i64 (Cn.b ((⟨9, ⟨#[]⟩, 0, unsV s (p + 1) 2, 0⟩ : Cn)))]), .int .i64 0, .int .i64 3]) ?_ rfl ⟨⟨9, ⟨#[]⟩, 0, unsV s (p + 1) 2, 0⟩, 0, by rw [G.out], fun h => absurd (G.out.symm.trans h) (by decide), below_al (below_al hB _) _⟩
  simp [results, Tryz.f56, go_sem, set_same, *]
set_option maxRecDepth 100000 in
theorem tk_9n (s : ByteArray) (p : Int) (hs : s.size ≤ 140737488355328) (hp : 0 ≤ p ∧ p ≤ s.size) (h0 : unsE s p 1 = 0) (hv : unsV s p 1 = 9) (h1 : unsE s (p + 1) 2 = 3) (w : World) : Calls Tryz.prog 56 #[.string s, .int .i64 p] w (DcRet w s p) := by
  have hB : Below w.heap.size w w := Below.refl _ _
  have hl := un_0 ok1 h0
  have e0 : dcE s p = 3 := (dw_n h0 (by rw [hv]; decide) (by omega)).trans h1
  have G := Lib.hid e0
  clear e0
  go_enter Tryz.func56, Tryz.ntmps56
  go_wp2_with (first | (go_at_call 55; (with_reducible refine (numU_ok s p 1 ok1 hs h0 _).mono ?_); rintro e w' ⟨rfl, rfl⟩) | (go_at_call 55; (with_reducible refine (numU_no s (p + 1) 2 ok2 hs (by omega) h1 _).mono ?_); rintro e w' ⟨rfl, rfl⟩))
  refine bodyPost_ret (v := .tuple #[(Value.agg #[Value.int IntKind.i64 (Cn.t ((⟨9, ⟨#[]⟩, 0, 0, 0⟩ : Cn))), Value.string (Cn.s ((⟨9, ⟨#[]⟩, 0, 0, 0⟩ : Cn))), Value.int IntKind.i64 (Cn.n ((⟨9, ⟨#[]⟩, 0, 0, 0⟩ : Cn))), Value.int IntKind.i64 (Cn.a ((⟨9, ⟨#[]⟩, 0, 0, 0⟩ : Cn))), Value.int IntKind.i64 (Cn.b ((⟨9, ⟨#[]⟩, 0, 0, 0⟩ : Cn)))]), .int .i64 0, .int .i64 3]) ?_ rfl ⟨⟨9, ⟨#[]⟩, 0, 0, 0⟩, 0, by rw [G.out], fun h => absurd (G.out.symm.trans h) (by decide), below_al (below_al hB _) _⟩
  simp [results, Tryz.f56, go_sem, set_same, *]
set_option maxRecDepth 100000 in
theorem tk_10 (s : ByteArray) (p : Int) (hs : s.size ≤ 140737488355328) (hp : 0 ≤ p ∧ p ≤ s.size) (h0 : unsE s p 1 = 0) (hv : unsV s p 1 = 10) (h1 : unsE s (p + 1) 2 = 0) (h2 : unsE s (p + 1 + 2) 2 = 0) (w : World) : Calls Tryz.prog 56 #[.string s, .int .i64 p] w (DcRet w s p) := by
  have hB : Below w.heap.size w w := Below.refl _ _
  have hl := un_0 ok1 h0
  have g := dw_m h0 (by rw [hv]; decide) h1
  rw [show p + 3 = p + 1 + 2 by omega] at g
  rw [hv] at g
  have e0 : dcE s p = 0 := by rw [g.1]; exact h2
  have G := Lib.hid g
  clear g
  go_enter Tryz.func56, Tryz.ntmps56
  go_wp2_with (first | (go_at_call 55; (with_reducible refine (numU_ok s p 1 ok1 hs h0 _).mono ?_); rintro e w' ⟨rfl, rfl⟩) | (go_at_call 55; (with_reducible refine (numU_ok s (p + 1) 2 ok2 hs h1 _).mono ?_); rintro e w' ⟨rfl, rfl⟩) | (go_at_call 55; (with_reducible refine (numU_ok s (p + 1 + 2) 2 ok2 hs h2 _).mono ?_); rintro e w' ⟨rfl, rfl⟩))
  refine bodyPost_ret (v := .tuple #[(Value.agg #[Value.int IntKind.i64 (Cn.t ((⟨10, ⟨#[]⟩, 0, unsV s (p + 1) 2, unsV s (p + 1 + 2) 2⟩ : Cn))), Value.string (Cn.s ((⟨10, ⟨#[]⟩, 0, unsV s (p + 1) 2, unsV s (p + 1 + 2) 2⟩ : Cn))), Value.int IntKind.i64 (Cn.n ((⟨10, ⟨#[]⟩, 0, unsV s (p + 1) 2, unsV s (p + 1 + 2) 2⟩ : Cn))), Value.int IntKind.i64 (Cn.a ((⟨10, ⟨#[]⟩, 0, unsV s (p + 1) 2, unsV s (p + 1 + 2) 2⟩ : Cn))), Value.int IntKind.i64 (Cn.b ((⟨10, ⟨#[]⟩, 0, unsV s (p + 1) 2, unsV s (p + 1 + 2) 2⟩ : Cn)))]), .int .i64 (p + 1 + 2 + 2), .int .i64 0]) ?_ rfl ⟨⟨10, ⟨#[]⟩, 0, unsV s (p + 1) 2, unsV s (p + 1 + 2) 2⟩, p + 1 + 2 + 2, by rw [e0], fun _ => ⟨G.out.2.1.symm, by rw [G.out.2.2]; omega⟩, below_al (below_al hB _) _⟩
  simp [results, Tryz.f56, go_sem, set_same, *]
set_option maxRecDepth 100000 in
theorem tk_10m (s : ByteArray) (p : Int) (hs : s.size ≤ 140737488355328) (hp : 0 ≤ p ∧ p ≤ s.size) (h0 : unsE s p 1 = 0) (hv : unsV s p 1 = 10) (h1 : unsE s (p + 1) 2 = 0) (h2 : unsE s (p + 1 + 2) 2 = 3) (w : World) : Calls Tryz.prog 56 #[.string s, .int .i64 p] w (DcRet w s p) := by
  have hB : Below w.heap.size w w := Below.refl _ _
  have hl := un_0 ok1 h0
  have e0 : dcE s p = 3 := (dw_m h0 (by rw [hv]; decide) h1).1.trans (by rw [show p + 3 = p + 1 + 2 by omega]; exact h2)
  have G := Lib.hid e0
  clear e0
  go_enter Tryz.func56, Tryz.ntmps56
  go_wp2_with (first | (go_at_call 55; (with_reducible refine (numU_ok s p 1 ok1 hs h0 _).mono ?_); rintro e w' ⟨rfl, rfl⟩) | (go_at_call 55; (with_reducible refine (numU_ok s (p + 1) 2 ok2 hs h1 _).mono ?_); rintro e w' ⟨rfl, rfl⟩) | (go_at_call 55; (with_reducible refine (numU_no s (p + 1 + 2) 2 ok2 hs (by have := (un_0 ok2 h1).2; omega) h2 _).mono ?_); rintro e w' ⟨rfl, rfl⟩))
  refine bodyPost_ret (v := .tuple #[(Value.agg #[Value.int IntKind.i64 (Cn.t ((⟨10, ⟨#[]⟩, 0, unsV s (p + 1) 2, 0⟩ : Cn))), Value.string (Cn.s ((⟨10, ⟨#[]⟩, 0, unsV s (p + 1) 2, 0⟩ : Cn))), Value.int IntKind.i64 (Cn.n ((⟨10, ⟨#[]⟩, 0, unsV s (p + 1) 2, 0⟩ : Cn))), Value.int IntKind.i64 (Cn.a ((⟨10, ⟨#[]⟩, 0, unsV s (p + 1) 2, 0⟩ : Cn))), Value.int IntKind.i64 (Cn.b ((⟨10, ⟨#[]⟩, 0, unsV s (p + 1) 2, 0⟩ : Cn)))]), .int .i64 0, .int .i64 3]) ?_ rfl ⟨⟨10, ⟨#[]⟩, 0, unsV s (p + 1) 2, 0⟩, 0, by rw [G.out], fun h => absurd (G.out.symm.trans h) (by decide), below_al (below_al hB _) _⟩
  simp [results, Tryz.f56, go_sem, set_same, *]
set_option maxRecDepth 100000 in
theorem tk_10n (s : ByteArray) (p : Int) (hs : s.size ≤ 140737488355328) (hp : 0 ≤ p ∧ p ≤ s.size) (h0 : unsE s p 1 = 0) (hv : unsV s p 1 = 10) (h1 : unsE s (p + 1) 2 = 3) (w : World) : Calls Tryz.prog 56 #[.string s, .int .i64 p] w (DcRet w s p) := by
  have hB : Below w.heap.size w w := Below.refl _ _
  have hl := un_0 ok1 h0
  have e0 : dcE s p = 3 := (dw_n h0 (by rw [hv]; decide) (by omega)).trans h1
  have G := Lib.hid e0
  clear e0
  go_enter Tryz.func56, Tryz.ntmps56
  go_wp2_with (first | (go_at_call 55; (with_reducible refine (numU_ok s p 1 ok1 hs h0 _).mono ?_); rintro e w' ⟨rfl, rfl⟩) | (go_at_call 55; (with_reducible refine (numU_no s (p + 1) 2 ok2 hs (by omega) h1 _).mono ?_); rintro e w' ⟨rfl, rfl⟩))
  refine bodyPost_ret (v := .tuple #[(Value.agg #[Value.int IntKind.i64 (Cn.t ((⟨10, ⟨#[]⟩, 0, 0, 0⟩ : Cn))), Value.string (Cn.s ((⟨10, ⟨#[]⟩, 0, 0, 0⟩ : Cn))), Value.int IntKind.i64 (Cn.n ((⟨10, ⟨#[]⟩, 0, 0, 0⟩ : Cn))), Value.int IntKind.i64 (Cn.a ((⟨10, ⟨#[]⟩, 0, 0, 0⟩ : Cn))), Value.int IntKind.i64 (Cn.b ((⟨10, ⟨#[]⟩, 0, 0, 0⟩ : Cn)))]), .int .i64 0, .int .i64 3]) ?_ rfl ⟨⟨10, ⟨#[]⟩, 0, 0, 0⟩, 0, by rw [G.out], fun h => absurd (G.out.symm.trans h) (by decide), below_al (below_al hB _) _⟩
  simp [results, Tryz.f56, go_sem, set_same, *]
set_option maxRecDepth 100000 in
theorem tk_11 (s : ByteArray) (p : Int) (hs : s.size ≤ 140737488355328) (hp : 0 ≤ p ∧ p ≤ s.size) (h0 : unsE s p 1 = 0) (hv : unsV s p 1 = 11) (h1 : unsE s (p + 1) 2 = 0) (h2 : unsE s (p + 1 + 2) 2 = 0) (w : World) : Calls Tryz.prog 56 #[.string s, .int .i64 p] w (DcRet w s p) := by
  have hB : Below w.heap.size w w := Below.refl _ _
  have hl := un_0 ok1 h0
  have g := dw_m h0 (by rw [hv]; decide) h1
  rw [show p + 3 = p + 1 + 2 by omega] at g
  rw [hv] at g
  have e0 : dcE s p = 0 := by rw [g.1]; exact h2
  have G := Lib.hid g
  clear g
  go_enter Tryz.func56, Tryz.ntmps56
  go_wp2_with (first | (go_at_call 55; (with_reducible refine (numU_ok s p 1 ok1 hs h0 _).mono ?_); rintro e w' ⟨rfl, rfl⟩) | (go_at_call 55; (with_reducible refine (numU_ok s (p + 1) 2 ok2 hs h1 _).mono ?_); rintro e w' ⟨rfl, rfl⟩) | (go_at_call 55; (with_reducible refine (numU_ok s (p + 1 + 2) 2 ok2 hs h2 _).mono ?_); rintro e w' ⟨rfl, rfl⟩))
  refine bodyPost_ret (v := .tuple #[(Value.agg #[Value.int IntKind.i64 (Cn.t ((⟨11, ⟨#[]⟩, 0, unsV s (p + 1) 2, unsV s (p + 1 + 2) 2⟩ : Cn))), Value.string (Cn.s ((⟨11, ⟨#[]⟩, 0, unsV s (p + 1) 2, unsV s (p + 1 + 2) 2⟩ : Cn))), Value.int IntKind.i64 (Cn.n ((⟨11, ⟨#[]⟩, 0, unsV s (p + 1) 2, unsV s (p + 1 + 2) 2⟩ : Cn))), Value.int IntKind.i64 (Cn.a ((⟨11, ⟨#[]⟩, 0, unsV s (p + 1) 2, unsV s (p + 1 + 2) 2⟩ : Cn))), Value.int IntKind.i64 (Cn.b ((⟨11, ⟨#[]⟩, 0, unsV s (p + 1) 2, unsV s (p + 1 + 2) 2⟩ : Cn)))]), .int .i64 (p + 1 + 2 + 2), .int .i64 0]) ?_ rfl ⟨⟨11, ⟨#[]⟩, 0, unsV s (p + 1) 2, unsV s (p + 1 + 2) 2⟩, p + 1 + 2 + 2, by rw [e0], fun _ => ⟨G.out.2.1.symm, by rw [G.out.2.2]; omega⟩, below_al (below_al hB _) _⟩
  simp [results, Tryz.f56, go_sem, set_same, *]
set_option maxRecDepth 100000 in
theorem tk_11m (s : ByteArray) (p : Int) (hs : s.size ≤ 140737488355328) (hp : 0 ≤ p ∧ p ≤ s.size) (h0 : unsE s p 1 = 0) (hv : unsV s p 1 = 11) (h1 : unsE s (p + 1) 2 = 0) (h2 : unsE s (p + 1 + 2) 2 = 3) (w : World) : Calls Tryz.prog 56 #[.string s, .int .i64 p] w (DcRet w s p) := by
  have hB : Below w.heap.size w w := Below.refl _ _
  have hl := un_0 ok1 h0
  have e0 : dcE s p = 3 := (dw_m h0 (by rw [hv]; decide) h1).1.trans (by rw [show p + 3 = p + 1 + 2 by omega]; exact h2)
  have G := Lib.hid e0
  clear e0
  go_enter Tryz.func56, Tryz.ntmps56
  go_wp2_with (first | (go_at_call 55; (with_reducible refine (numU_ok s p 1 ok1 hs h0 _).mono ?_); rintro e w' ⟨rfl, rfl⟩) | (go_at_call 55; (with_reducible refine (numU_ok s (p + 1) 2 ok2 hs h1 _).mono ?_); rintro e w' ⟨rfl, rfl⟩) | (go_at_call 55; (with_reducible refine (numU_no s (p + 1 + 2) 2 ok2 hs (by have := (un_0 ok2 h1).2; omega) h2 _).mono ?_); rintro e w' ⟨rfl, rfl⟩))
  refine bodyPost_ret (v := .tuple #[(Value.agg #[Value.int IntKind.i64 (Cn.t ((⟨11, ⟨#[]⟩, 0, unsV s (p + 1) 2, 0⟩ : Cn))), Value.string (Cn.s ((⟨11, ⟨#[]⟩, 0, unsV s (p + 1) 2, 0⟩ : Cn))), Value.int IntKind.i64 (Cn.n ((⟨11, ⟨#[]⟩, 0, unsV s (p + 1) 2, 0⟩ : Cn))), Value.int IntKind.i64 (Cn.a ((⟨11, ⟨#[]⟩, 0, unsV s (p + 1) 2, 0⟩ : Cn))), Value.int IntKind.i64 (Cn.b ((⟨11, ⟨#[]⟩, 0, unsV s (p + 1) 2, 0⟩ : Cn)))]), .int .i64 0, .int .i64 3]) ?_ rfl ⟨⟨11, ⟨#[]⟩, 0, unsV s (p + 1) 2, 0⟩, 0, by rw [G.out], fun h => absurd (G.out.symm.trans h) (by decide), below_al (below_al hB _) _⟩
  simp [results, Tryz.f56, go_sem, set_same, *]
set_option maxRecDepth 100000 in
theorem tk_11n (s : ByteArray) (p : Int) (hs : s.size ≤ 140737488355328) (hp : 0 ≤ p ∧ p ≤ s.size) (h0 : unsE s p 1 = 0) (hv : unsV s p 1 = 11) (h1 : unsE s (p + 1) 2 = 3) (w : World) : Calls Tryz.prog 56 #[.string s, .int .i64 p] w (DcRet w s p) := by
  have hB : Below w.heap.size w w := Below.refl _ _
  have hl := un_0 ok1 h0
  have e0 : dcE s p = 3 := (dw_n h0 (by rw [hv]; decide) (by omega)).trans h1
  have G := Lib.hid e0
  clear e0
  go_enter Tryz.func56, Tryz.ntmps56
  go_wp2_with (first | (go_at_call 55; (with_reducible refine (numU_ok s p 1 ok1 hs h0 _).mono ?_); rintro e w' ⟨rfl, rfl⟩) | (go_at_call 55; (with_reducible refine (numU_no s (p + 1) 2 ok2 hs (by omega) h1 _).mono ?_); rintro e w' ⟨rfl, rfl⟩))
  refine bodyPost_ret (v := .tuple #[(Value.agg #[Value.int IntKind.i64 (Cn.t ((⟨11, ⟨#[]⟩, 0, 0, 0⟩ : Cn))), Value.string (Cn.s ((⟨11, ⟨#[]⟩, 0, 0, 0⟩ : Cn))), Value.int IntKind.i64 (Cn.n ((⟨11, ⟨#[]⟩, 0, 0, 0⟩ : Cn))), Value.int IntKind.i64 (Cn.a ((⟨11, ⟨#[]⟩, 0, 0, 0⟩ : Cn))), Value.int IntKind.i64 (Cn.b ((⟨11, ⟨#[]⟩, 0, 0, 0⟩ : Cn)))]), .int .i64 0, .int .i64 3]) ?_ rfl ⟨⟨11, ⟨#[]⟩, 0, 0, 0⟩, 0, by rw [G.out], fun h => absurd (G.out.symm.trans h) (by decide), below_al (below_al hB _) _⟩
  simp [results, Tryz.f56, go_sem, set_same, *]
set_option maxRecDepth 100000 in
theorem tk_12 (s : ByteArray) (p : Int) (hs : s.size ≤ 140737488355328) (hp : 0 ≤ p ∧ p ≤ s.size) (h0 : unsE s p 1 = 0) (hv : unsV s p 1 = 12) (h1 : unsE s (p + 1) 2 = 0) (h2 : unsE s (p + 1 + 2) 2 = 0) (w : World) : Calls Tryz.prog 56 #[.string s, .int .i64 p] w (DcRet w s p) := by
  have hB : Below w.heap.size w w := Below.refl _ _
  have hl := un_0 ok1 h0
  have g := dw_m h0 (by rw [hv]; decide) h1
  rw [show p + 3 = p + 1 + 2 by omega] at g
  rw [hv] at g
  have e0 : dcE s p = 0 := by rw [g.1]; exact h2
  have G := Lib.hid g
  clear g
  go_enter Tryz.func56, Tryz.ntmps56
  go_wp2_with (first | (go_at_call 55; (with_reducible refine (numU_ok s p 1 ok1 hs h0 _).mono ?_); rintro e w' ⟨rfl, rfl⟩) | (go_at_call 55; (with_reducible refine (numU_ok s (p + 1) 2 ok2 hs h1 _).mono ?_); rintro e w' ⟨rfl, rfl⟩) | (go_at_call 55; (with_reducible refine (numU_ok s (p + 1 + 2) 2 ok2 hs h2 _).mono ?_); rintro e w' ⟨rfl, rfl⟩))
  refine bodyPost_ret (v := .tuple #[(Value.agg #[Value.int IntKind.i64 (Cn.t ((⟨12, ⟨#[]⟩, 0, unsV s (p + 1) 2, unsV s (p + 1 + 2) 2⟩ : Cn))), Value.string (Cn.s ((⟨12, ⟨#[]⟩, 0, unsV s (p + 1) 2, unsV s (p + 1 + 2) 2⟩ : Cn))), Value.int IntKind.i64 (Cn.n ((⟨12, ⟨#[]⟩, 0, unsV s (p + 1) 2, unsV s (p + 1 + 2) 2⟩ : Cn))), Value.int IntKind.i64 (Cn.a ((⟨12, ⟨#[]⟩, 0, unsV s (p + 1) 2, unsV s (p + 1 + 2) 2⟩ : Cn))), Value.int IntKind.i64 (Cn.b ((⟨12, ⟨#[]⟩, 0, unsV s (p + 1) 2, unsV s (p + 1 + 2) 2⟩ : Cn)))]), .int .i64 (p + 1 + 2 + 2), .int .i64 0]) ?_ rfl ⟨⟨12, ⟨#[]⟩, 0, unsV s (p + 1) 2, unsV s (p + 1 + 2) 2⟩, p + 1 + 2 + 2, by rw [e0], fun _ => ⟨G.out.2.1.symm, by rw [G.out.2.2]; omega⟩, below_al (below_al hB _) _⟩
  simp [results, Tryz.f56, go_sem, set_same, *]
set_option maxRecDepth 100000 in
theorem tk_12m (s : ByteArray) (p : Int) (hs : s.size ≤ 140737488355328) (hp : 0 ≤ p ∧ p ≤ s.size) (h0 : unsE s p 1 = 0) (hv : unsV s p 1 = 12) (h1 : unsE s (p + 1) 2 = 0) (h2 : unsE s (p + 1 + 2) 2 = 3) (w : World) : Calls Tryz.prog 56 #[.string s, .int .i64 p] w (DcRet w s p) := by
  have hB : Below w.heap.size w w := Below.refl _ _
  have hl := un_0 ok1 h0
  have e0 : dcE s p = 3 := (dw_m h0 (by rw [hv]; decide) h1).1.trans (by rw [show p + 3 = p + 1 + 2 by omega]; exact h2)
  have G := Lib.hid e0
  clear e0
  go_enter Tryz.func56, Tryz.ntmps56
  go_wp2_with (first | (go_at_call 55; (with_reducible refine (numU_ok s p 1 ok1 hs h0 _).mono ?_); rintro e w' ⟨rfl, rfl⟩) | (go_at_call 55; (with_reducible refine (numU_ok s (p + 1) 2 ok2 hs h1 _).mono ?_); rintro e w' ⟨rfl, rfl⟩) | (go_at_call 55; (with_reducible refine (numU_no s (p + 1 + 2) 2 ok2 hs (by have := (un_0 ok2 h1).2; omega) h2 _).mono ?_); rintro e w' ⟨rfl, rfl⟩))
  refine bodyPost_ret (v := .tuple #[(Value.agg #[Value.int IntKind.i64 (Cn.t ((⟨12, ⟨#[]⟩, 0, unsV s (p + 1) 2, 0⟩ : Cn))), Value.string (Cn.s ((⟨12, ⟨#[]⟩, 0, unsV s (p + 1) 2, 0⟩ : Cn))), Value.int IntKind.i64 (Cn.n ((⟨12, ⟨#[]⟩, 0, unsV s (p + 1) 2, 0⟩ : Cn))), Value.int IntKind.i64 (Cn.a ((⟨12, ⟨#[]⟩, 0, unsV s (p + 1) 2, 0⟩ : Cn))), Value.int IntKind.i64 (Cn.b ((⟨12, ⟨#[]⟩, 0, unsV s (p + 1) 2, 0⟩ : Cn)))]), .int .i64 0, .int .i64 3]) ?_ rfl ⟨⟨12, ⟨#[]⟩, 0, unsV s (p + 1) 2, 0⟩, 0, by rw [G.out], fun h => absurd (G.out.symm.trans h) (by decide), below_al (below_al hB _) _⟩
  simp [results, Tryz.f56, go_sem, set_same, *]
set_option maxRecDepth 100000 in
theorem tk_12n (s : ByteArray) (p : Int) (hs : s.size ≤ 140737488355328) (hp : 0 ≤ p ∧ p ≤ s.size) (h0 : unsE s p 1 = 0) (hv : unsV s p 1 = 12) (h1 : unsE s (p + 1) 2 = 3) (w : World) : Calls Tryz.prog 56 #[.string s, .int .i64 p] w (DcRet w s p) := by
  have hB : Below w.heap.size w w := Below.refl _ _
  have hl := un_0 ok1 h0
  have e0 : dcE s p = 3 := (dw_n h0 (by rw [hv]; decide) (by omega)).trans h1
  have G := Lib.hid e0
  clear e0
  go_enter Tryz.func56, Tryz.ntmps56
  go_wp2_with (first | (go_at_call 55; (with_reducible refine (numU_ok s p 1 ok1 hs h0 _).mono ?_); rintro e w' ⟨rfl, rfl⟩) | (go_at_call 55; (with_reducible refine (numU_no s (p + 1) 2 ok2 hs (by omega) h1 _).mono ?_); rintro e w' ⟨rfl, rfl⟩))
  refine bodyPost_ret (v := .tuple #[(Value.agg #[Value.int IntKind.i64 (Cn.t ((⟨12, ⟨#[]⟩, 0, 0, 0⟩ : Cn))), Value.string (Cn.s ((⟨12, ⟨#[]⟩, 0, 0, 0⟩ : Cn))), Value.int IntKind.i64 (Cn.n ((⟨12, ⟨#[]⟩, 0, 0, 0⟩ : Cn))), Value.int IntKind.i64 (Cn.a ((⟨12, ⟨#[]⟩, 0, 0, 0⟩ : Cn))), Value.int IntKind.i64 (Cn.b ((⟨12, ⟨#[]⟩, 0, 0, 0⟩ : Cn)))]), .int .i64 0, .int .i64 3]) ?_ rfl ⟨⟨12, ⟨#[]⟩, 0, 0, 0⟩, 0, by rw [G.out], fun h => absurd (G.out.symm.trans h) (by decide), below_al (below_al hB _) _⟩
  simp [results, Tryz.f56, go_sem, set_same, *]
set_option maxRecDepth 100000 in
theorem tk_u (s : ByteArray) (p : Int) (hs : s.size ≤ 140737488355328) (hp : 0 ≤ p ∧ p ≤ s.size) (h0 : unsE s p 1 = 0) (hk : knB (unsV s p 1) = false) (w : World) : Calls Tryz.prog 56 #[.string s, .int .i64 p] w (DcRet w s p) := by
  have hB : Below w.heap.size w w := Below.refl _ _
  have hl := un_0 ok1 h0
  have hne : ¬ unsV s p 1 = 1 ∧ ¬ unsV s p 1 = 3 ∧ ¬ unsV s p 1 = 5 ∧ ¬ unsV s p 1 = 7 ∧ ¬ unsV s p 1 = 8 ∧ ¬ unsV s p 1 = 12 ∧ ¬ unsV s p 1 = 9 ∧ ¬ unsV s p 1 = 10 ∧ ¬ unsV s p 1 = 11 := by
    refine ⟨?_, ?_, ?_, ?_, ?_, ?_, ?_, ?_, ?_⟩ <;> (intro e; rw [e] at hk; revert hk; decide)
  obtain ⟨x1, x3, x5, x7, x8, x12, x9, x10, x11⟩ := hne
  have y1 := beqF x1
  have y3 := beqF x3
  have y5 := beqF x5
  have y7 := beqF x7
  have y8 := beqF x8
  have y12 := beqF x12
  have y9 := beqF x9
  have y10 := beqF x10
  have y11 := beqF x11
  have G := Lib.hid (dw_u h0 hk)
  clear x1 x3 x5 x7 x8 x12 x9 x10 x11
  go_enter Tryz.func56, Tryz.ntmps56
  go_wp2_with (go_at_call 55; (with_reducible refine (numU_ok s p 1 ok1 hs h0 _).mono ?_); rintro e w' ⟨rfl, rfl⟩)
  refine bodyPost_ret (v := .tuple #[(Value.agg #[Value.int IntKind.i64 (Cn.t ((⟨unsV s p 1, ⟨#[]⟩, 0, 0, 0⟩ : Cn))), Value.string (Cn.s ((⟨unsV s p 1, ⟨#[]⟩, 0, 0, 0⟩ : Cn))), Value.int IntKind.i64 (Cn.n ((⟨unsV s p 1, ⟨#[]⟩, 0, 0, 0⟩ : Cn))), Value.int IntKind.i64 (Cn.a ((⟨unsV s p 1, ⟨#[]⟩, 0, 0, 0⟩ : Cn))), Value.int IntKind.i64 (Cn.b ((⟨unsV s p 1, ⟨#[]⟩, 0, 0, 0⟩ : Cn)))]), .int .i64 0, .int .i64 11]) ?_ rfl ⟨⟨unsV s p 1, ⟨#[]⟩, 0, 0, 0⟩, 0, by rw [G.out], fun h => absurd (G.out.symm.trans h) (by decide), below_al (below_al hB _) _⟩
  simp [results, Tryz.f56, go_sem, set_same, *]

theorem tk_any (s : ByteArray) (p : Int) (hs : s.size ≤ 140737488355328) (hp : 0 ≤ p ∧ p ≤ s.size) (w : World) : Calls Tryz.prog 56 #[.string s, .int .i64 p] w (DcRet w s p) := by
  rcases un_e hp ok1 with h0 | h0
  rotate_left
  · exact tk_e s p hs hp h0 w
  have hl := un_0 ok1 h0
  have hp1 : 0 ≤ p + 1 ∧ p + 1 ≤ s.size := by omega
  cases hk : knB (unsV s p 1) with
  | false => exact tk_u s p hs hp h0 hk w
  | true =>
    rcases kn_cases hk with hv | hv | hv | hv | hv | hv | hv | hv | hv
    · rcases gs_e hp1 with h1 | h1
      · exact tk_1 s p hs hp h0 hv h1 w
      · exact tk_1n s p hs hp h0 hv h1 w
    · rcases un_e hp1 ok4 with h1 | h1
      · exact tk_3 s p hs hp h0 hv h1 w
      · exact tk_3n s p hs hp h0 hv h1 w
    · rcases un_e hp1 ok8 with h1 | h1
      · exact tk_5 s p hs hp h0 hv h1 w
      · exact tk_5n s p hs hp h0 hv h1 w
    · rcases un_e hp1 ok2 with h1 | h1
      · exact tk_7 s p hs hp h0 hv h1 w
      · exact tk_7n s p hs hp h0 hv h1 w
    · rcases un_e hp1 ok2 with h1 | h1
      · exact tk_8 s p hs hp h0 hv h1 w
      · exact tk_8n s p hs hp h0 hv h1 w
    · rcases un_e hp1 ok2 with h1 | h1
      · have hl2 := un_0 ok2 h1
        rcases un_e (s := s) (p := p + 1 + 2) (by omega) ok2 with h2 | h2
        · exact tk_12 s p hs hp h0 hv h1 h2 w
        · exact tk_12m s p hs hp h0 hv h1 h2 w
      · exact tk_12n s p hs hp h0 hv h1 w
    · rcases un_e hp1 ok2 with h1 | h1
      · have hl2 := un_0 ok2 h1
        rcases un_e (s := s) (p := p + 1 + 2) (by omega) ok2 with h2 | h2
        · exact tk_9 s p hs hp h0 hv h1 h2 w
        · exact tk_9m s p hs hp h0 hv h1 h2 w
      · exact tk_9n s p hs hp h0 hv h1 w
    · rcases un_e hp1 ok2 with h1 | h1
      · have hl2 := un_0 ok2 h1
        rcases un_e (s := s) (p := p + 1 + 2) (by omega) ok2 with h2 | h2
        · exact tk_10 s p hs hp h0 hv h1 h2 w
        · exact tk_10m s p hs hp h0 hv h1 h2 w
      · exact tk_10n s p hs hp h0 hv h1 w
    · rcases un_e hp1 ok2 with h1 | h1
      · have hl2 := un_0 ok2 h1
        rcases un_e (s := s) (p := p + 1 + 2) (by omega) ok2 with h2 | h2
        · exact tk_11 s p hs hp h0 hv h1 h2 w
        · exact tk_11m s p hs hp h0 hv h1 h2 w
      · exact tk_11n s p hs hp h0 hv h1 w

end Go.Proofs.YthfegbhbokhlkaaGreatDoor

/- PcDecode -/
/- Layer 6: Decode, in the package and in its reference. -/
namespace Go.Proofs.YthfegbhbokhlkaaGreatDoor
open Go.ChangeShapes Go.WideShapes Go.ChangeAt Go.RowKit Go.PlainAid
set_option linter.unusedSimpArgs false
set_option linter.unusedVariables false

def dk (s : ByteArray) (p : Int) : Nat → List Cn × Int × Int
  | 0 => ([], p, 0)
  | k + 1 => ((dk s p k).1 ++ [dcC s (dk s p k).2.1], dcN s (dk s p k).2.1, if (dk s p k).2.2 = 0 then dcE s (dk s p k).2.1 else (dk s p k).2.2)
theorem bneT' {a b : Int} (h : ¬ a = b) : (a != b) = true := by simpa using h
def dkL (s : ByteArray) (p : Int) (k : Nat) : List Cn := (dk s p k).1
def dkN (s : ByteArray) (p : Int) (k : Nat) : Int := (dk s p k).2.1
def dkE (s : ByteArray) (p : Int) (k : Nat) : Int := (dk s p k).2.2
theorem dkE_ok {s : ByteArray} {p : Int} {k : Nat} (h : dkE s p k = 0) : dkE s p (k + 1) = dcE s (dkN s p k) := by
  unfold dkE at h
  show (if (dk s p k).2.2 = 0 then dcE s (dk s p k).2.1 else (dk s p k).2.2) = _
  rw [if_pos h]; rfl
theorem dkE_no {s : ByteArray} {p : Int} {k : Nat} (h : ¬ dkE s p k = 0) : dkE s p (k + 1) = dkE s p k := by
  unfold dkE at h
  show (if (dk s p k).2.2 = 0 then dcE s (dk s p k).2.1 else (dk s p k).2.2) = _
  rw [if_neg h]; rfl
theorem dkE_stay {s : ByteArray} {p : Int} {k : Nat} (h : ¬ dkE s p k = 0) : ∀ n, k ≤ n → dkE s p n = dkE s p k
  | 0, hn => by obtain rfl : k = 0 := by omega
                rfl
  | n + 1, hn => by
    rcases (by omega : k = n + 1 ∨ k ≤ n) with rfl | h1
    · rfl
    · have := dkE_stay h n h1
      rw [dkE_no (by rw [this]; exact h), this]
theorem dkL_snoc (s : ByteArray) (p : Int) (k : Nat) : dkL s p (k + 1) = dkL s p k ++ [dcC s (dkN s p k)] := rfl
theorem dkN_snoc (s : ByteArray) (p : Int) (k : Nat) : dkN s p (k + 1) = dcN s (dkN s p k) := rfl
theorem dkL_len (s : ByteArray) (p : Int) : ∀ k, (dkL s p k).length = k
  | 0 => rfl
  | k + 1 => by rw [dkL_snoc, List.length_append, dkL_len s p k]; rfl
theorem dc_pos {s : ByteArray} {q : Int} (hq : 0 ≤ q ∧ q ≤ s.size) (h : dcE s q = 0) : q ≤ dcN s q ∧ dcN s q ≤ s.size := by
  have h0 : unsE s q 1 = 0 := by
    rcases un_e hq ok1 with h1 | h1
    · exact h1
    · rw [dw_0 (by omega)] at h; omega
  have hl := un_0 ok1 h0
  have hq1 : 0 ≤ q + 1 ∧ q + 1 ≤ s.size := by omega
  cases hk : knB (unsV s q 1) with
  | false => rw [dw_u h0 hk] at h; cases h
  | true =>
    rcases kn_cases hk with hv | hv | hv | hv | hv | hv | hv | hv | hv
    · obtain ⟨a, b, c⟩ := dw_1 h0 hv
      rw [a] at h
      rw [c]
      have hu := uns2_bd s (q + 1)
      unfold gsN
      rw [if_pos h]
      unfold gsE at h
      split at h
      · rename_i h1; exact absurd h h1
      · split at h
        · cases h
        · omega
    · obtain ⟨a, b, c⟩ := dw_3 h0 hv
      rw [a] at h; rw [c]; have := un_0 ok4 h; omega
    · obtain ⟨a, b, c⟩ := dw_5 h0 hv
      rw [a] at h; rw [c]; have := un_0 ok8 h; omega
    · obtain ⟨a, b, c⟩ := dw_7 h0 (Or.inl hv)
      rw [a] at h; rw [c]; have := un_0 ok2 h; omega
    · obtain ⟨a, b, c⟩ := dw_7 h0 (Or.inr hv)
      rw [a] at h; rw [c]; have := un_0 ok2 h; omega
    all_goals
      by_cases h1 : unsE s (q + 1) 2 = 0
      · obtain ⟨a, b, c⟩ := dw_m h0 (by rw [hv]; decide) h1
        rw [a] at h; rw [c]; have := un_0 ok2 h; omega
      · rw [dw_n h0 (by rw [hv]; decide) h1] at h; exact absurd h h1
theorem dk_pos {s : ByteArray} {p : Int} (hp : 0 ≤ p ∧ p ≤ s.size) : ∀ k, dkE s p k = 0 → 0 ≤ dkN s p k ∧ dkN s p k ≤ s.size
  | 0, _ => hp
  | k + 1, h => by
    by_cases h1 : dkE s p k = 0
    · have ih := dk_pos hp k h1
      rw [dkE_ok h1] at h
      have := dc_pos ih h
      rw [dkN_snoc]; omega
    · rw [dkE_no h1] at h; exact absurd h h1
theorem dc_short (s : ByteArray) (q : Int) : (dcC s q).s.size ≤ s.size := by
  unfold dcC
  repeat' split
  all_goals first | exact Nat.zero_le _ | skip
  show (gsB s (q + 1)).size ≤ s.size
  unfold gsB
  split
  · rw [ByteArray.size_extract]; omega
  · exact Nat.zero_le _
theorem dk_short {s : ByteArray} (hs : s.size ≤ 2000000) (p : Int) : ∀ k, Short (dkL s p k)
  | 0 => fun c hc => by cases hc
  | k + 1 => fun c hc => by
    rw [dkL_snoc] at hc
    rcases List.mem_append.1 hc with h | h
    · exact dk_short hs p k c h
    · have : c = dcC s (dkN s p k) := by simpa using h
      subst this
      exact Nat.le_trans (dc_short _ _) hs

/-- Decode's pool, offset and error -/
def de (s : ByteArray) (p : Int) : List Cn × Int × Int :=
  if 0 ≤ p ∧ p ≤ s.size then
    if unsE s p 2 = 0 then
      if dkE s (p + 2) (unsV s p 2).toNat = 0 then
        if chE (dkL s (p + 2) (unsV s p 2).toNat) = 0 then (dkL s (p + 2) (unsV s p 2).toNat, dkN s (p + 2) (unsV s p 2).toNat, 0)
        else ([], 0, chE (dkL s (p + 2) (unsV s p 2).toNat))
      else ([], 0, dkE s (p + 2) (unsV s p 2).toNat)
    else ([], 0, unsE s p 2)
  else ([], 0, 2)
def deL (s : ByteArray) (p : Int) : List Cn := (de s p).1
def deN (s : ByteArray) (p : Int) : Int := (de s p).2.1
def deE (s : ByteArray) (p : Int) : Int := (de s p).2.2
theorem de_1 {s : ByteArray} {p : Int} (h : ¬ (0 ≤ p ∧ p ≤ s.size)) : deL s p = [] ∧ deN s p = 0 ∧ deE s p = 2 := by unfold deL deN deE de; rw [if_neg h]; exact ⟨rfl, rfl, rfl⟩
theorem de_2 {s : ByteArray} {p : Int} (h : 0 ≤ p ∧ p ≤ s.size) (h2 : ¬ unsE s p 2 = 0) : deL s p = [] ∧ deN s p = 0 ∧ deE s p = unsE s p 2 := by unfold deL deN deE de; rw [if_pos h, if_neg h2]; exact ⟨rfl, rfl, rfl⟩
theorem de_3 {s : ByteArray} {p : Int} (h : 0 ≤ p ∧ p ≤ s.size) (h2 : unsE s p 2 = 0) (h3 : ¬ dkE s (p + 2) (unsV s p 2).toNat = 0) : deL s p = [] ∧ deN s p = 0 ∧ deE s p = dkE s (p + 2) (unsV s p 2).toNat := by unfold deL deN deE de; rw [if_pos h, if_pos h2, if_neg h3]; exact ⟨rfl, rfl, rfl⟩
theorem de_4 {s : ByteArray} {p : Int} (h : 0 ≤ p ∧ p ≤ s.size) (h2 : unsE s p 2 = 0) (h3 : dkE s (p + 2) (unsV s p 2).toNat = 0) (h4 : ¬ chE (dkL s (p + 2) (unsV s p 2).toNat) = 0) : deL s p = [] ∧ deN s p = 0 ∧ deE s p = chE (dkL s (p + 2) (unsV s p 2).toNat) := by unfold deL deN deE de; rw [if_pos h, if_pos h2, if_pos h3, if_neg h4]; exact ⟨rfl, rfl, rfl⟩
theorem de_5 {s : ByteArray} {p : Int} (h : 0 ≤ p ∧ p ≤ s.size) (h2 : unsE s p 2 = 0) (h3 : dkE s (p + 2) (unsV s p 2).toNat = 0) (h4 : chE (dkL s (p + 2) (unsV s p 2).toNat) = 0) : deL s p = dkL s (p + 2) (unsV s p 2).toNat ∧ deN s p = dkN s (p + 2) (unsV s p 2).toNat ∧ deE s p = 0 := by unfold deL deN deE de; rw [if_pos h, if_pos h2, if_pos h3, if_pos h4]; exact ⟨rfl, rfl, rfl⟩

/-- what Decode hands back -/
def DeRet (w : World) (s : ByteArray) (p : Int) (r : Ending) (w' : World) : Prop :=
  ∃ A n c, r = .returned (.tuple #[.slice A n c, .int .i64 (deN s p), .int .i64 (deE s p)]) ∧ (deL s p).length = n ∧ n ≤ c ∧ Pool w' w'.heap.size A (deL s p) ∧ Below w.heap.size w w'
theorem DeRet.nil {w w' : World} {s : ByteArray} {p e : Int} (h : deL s p = [] ∧ deN s p = 0 ∧ deE s p = e) (hb : Below w.heap.size w w') : DeRet w s p (.returned (.tuple #[.slice none 0 0, .int .i64 0, .int .i64 e])) w' :=
  ⟨none, 0, 0, by rw [h.2.1, h.2.2], by rw [h.1]; rfl, Nat.le_refl _, by rw [h.1]; exact Pool.nil _ _ _, hb⟩

set_option maxRecDepth 100000 in
set_option maxHeartbeats 1000000 in
theorem dec_out (s : ByteArray) (p : Int) (hp : ¬ (0 ≤ p ∧ p ≤ s.size)) (w : World) : Calls Tryz.prog 29 #[.string s, .int .i64 p] w (DeRet w s p) := by
  have hB : Below w.heap.size w w := Below.refl _ _
  have g := de_1 hp
  rcases (by omega : p < 0 ∨ (0 ≤ p ∧ (s.size : Int) < p)) with h | ⟨h, h'⟩
  all_goals
    go_enter Tryz.func29, Tryz.ntmps29
    go_wp2
    go_ret3
    exact DeRet.nil g hB
set_option maxRecDepth 100000 in
set_option maxHeartbeats 1000000 in
theorem rdec_out (s : ByteArray) (p : Int) (hp : ¬ (0 ≤ p ∧ p ≤ s.size)) (w : World) : Calls Tryz.prog 35 #[.string s, .int .i64 p] w (DeRet w s p) := by
  have hB : Below w.heap.size w w := Below.refl _ _
  have g := de_1 hp
  rcases (by omega : p < 0 ∨ (0 ≤ p ∧ (s.size : Int) < p)) with h | ⟨h, h'⟩
  all_goals
    go_enter Tryz.func35, Tryz.ntmps35
    go_wp2
    go_ret3
    exact DeRet.nil g hB

set_option maxRecDepth 100000 in
set_option maxHeartbeats 1000000 in
theorem dec_cut (s : ByteArray) (p : Int) (hs : s.size ≤ 2000000) (hp : 0 ≤ p ∧ p ≤ s.size) (h2 : ¬ unsE s p 2 = 0) (w : World) : Calls Tryz.prog 29 #[.string s, .int .i64 p] w (DeRet w s p) := by
  have hB : Below w.heap.size w w := Below.refl _ _
  have g := de_2 hp h2
  have h2' := bneT' h2
  obtain ⟨hp0, hp1⟩ := hp
  clear h2
  go_enter Tryz.func29, Tryz.ntmps29
  go_wp2_with (go_at_call 53; refine (uns_any s _ _ (by omega) _).mono ?_; rintro e w' ⟨rfl, rfl⟩)
  go_ret3
  exact DeRet.nil g hB
set_option maxRecDepth 100000 in
set_option maxHeartbeats 1000000 in
theorem rdec_cut (s : ByteArray) (p : Int) (hs : s.size ≤ 2000000) (hp : 0 ≤ p ∧ p ≤ s.size) (h2 : ¬ unsE s p 2 = 0) (w : World) : Calls Tryz.prog 35 #[.string s, .int .i64 p] w (DeRet w s p) := by
  have hB : Below w.heap.size w w := Below.refl _ _
  have g := de_2 hp h2
  have h3 : unsE s p 2 = 3 := (un_e hp ok2).resolve_left h2
  rw [h3] at g
  have hp' := hp
  obtain ⟨hp0, hp1⟩ := hp
  clear h2
  go_enter Tryz.func35, Tryz.ntmps35
  go_wp2_with (go_at_call 55; refine (numU_no s p 2 ok2 (by omega) hp' h3 _).mono ?_; rintro e w' ⟨rfl, rfl⟩)
  go_ret3
  exact DeRet.nil g hB

set_option maxRecDepth 100000 in
set_option maxHeartbeats 1000000 in
theorem dec_in (s : ByteArray) (p : Int) (hs : s.size ≤ 2000000) (hp : 0 ≤ p ∧ p ≤ s.size) (h2 : unsE s p 2 = 0) (w : World) : Calls Tryz.prog 29 #[.string s, .int .i64 p] w (DeRet w s p) := by
  have hB : Below w.heap.size w w := Below.refl _ _
  have hl := un_0 ok2 h2
  have hu := uns2_bd s p
  have HP := Lib.hid hp
  obtain ⟨m, hm⟩ : ∃ m : Nat, unsV s p 2 = (m : Int) := ⟨(unsV s p 2).toNat, by omega⟩
  obtain ⟨hp0, hp1⟩ := hp
  rw [hm] at hu
  go_enter Tryz.func29, Tryz.ntmps29
  go_wp2_with (go_at_call 53; refine (uns_any s _ _ (by omega) _).mono ?_; rintro e w' ⟨rfl, rfl⟩)
  go_loopw [1, 9, 33] (fun at' v ctr wr => ∃ (k : Nat) (A : Option Addr) (c : Nat), k ≤ m ∧ ctr = .int .i64 k ∧ at' = .int .i64 (dkN s (p + 2) k) ∧ dkE s (p + 2) k = 0 ∧ v = .slice A k c ∧ OwnP wr w.heap.size A k c (dkL s (p + 2) k) ∧ Below w.heap.size w wr) (fun at' v ctr _ => m - (intOf ctr).toNat)
  case atStart => exact ⟨0, _, 0, Nat.zero_le _, rfl, rfl, rfl, rfl, ⟨rfl, Nat.le_refl _, Or.inl ⟨rfl, rfl⟩⟩, hB⟩
  case round =>
    obtain ⟨k, A, c, hk, rfl, rfl, hE, rfl, hO, hBr⟩ := hrel
    have hpos := dk_pos (s := s) (p := p + 2) (by omega) k hE
    by_cases hlt : k < m
    · have hsz := hBr.size
      have HO := Lib.hid hO
      have HPOS := Lib.hid hpos
      clear hO hpos
      go_wp2_with (first | (go_at_call 54; refine (dc_any s _ (by omega) HPOS.out _).mono ?_; rintro e w1 ⟨c', q', rfl, hcq, hb1⟩; have kc := first_box hb1; obtain ⟨c0, c1, c2, c3, c4, r0, r1, r2, r3, r4⟩ := five_cells kc; have HBW := below_on (w := wr) (below_al (Below.refl _ _) _) hb1; have hza : wr.heap.size ≤ w1.heap.size := HBW.size; have hzb : wr.heap.size < w1.heap.size := lt_heap kc; have HCQ := Lib.hid hcq; clear hcq hb1 kc) | (at_builtin; refine wpList_append_own (n := k) (m := 1) (M := [c']) (by rfl) _ _ (by rfl) (by rfl) (HO.out.below (by repeat (first | with_reducible exact HBW | with_reducible refine below_al ?_ _ | with_reducible refine below_st ?_ (by first | exact Nat.le_refl _ | (simp; omega)) _))) (by omega) (by simp; omega) (by rfl) (one_cells (new_at (by simp; done))) rfl Nat.zero_lt_one (by show 1 ≤ 100000; omega) ?_; intro A2 d2 w2 hO2 hb2))
      · have hd : ¬ dcE s (dkN s (p + 2) k) = 0 := bneT (by with_reducible assumption)
        have e1 := dkE_ok hE
        have e2 := dkE_stay (s := s) (p := p + 2) (k := k + 1) (by rw [e1]; exact hd) m (by omega)
        have g := de_3 HP.out h2 (by rw [hm, Int.toNat_natCast, e2, e1]; exact hd)
        rw [hm, Int.toNat_natCast, e2, e1] at g
        go_ret3
        exact DeRet.nil g (below_on hBr (by repeat (first | with_reducible exact HBW | with_reducible refine below_al ?_ _ | with_reducible refine below_st ?_ (by first | exact Nat.le_refl _ | (simp; omega)) _)))
      · have hd : dcE s (dkN s (p + 2) k) = 0 := bneF (by with_reducible assumption)
        obtain ⟨x1, x2⟩ := HCQ.out hd
        subst x1
        subst x2
        go_roundw
        case rel => exact ⟨k + 1, A2, d2, by omega, by go_num, rfl, (dkE_ok hE).trans hd, rfl, hO2, (below_on hBr (by repeat (first | with_reducible exact HBW | with_reducible refine below_al ?_ _ | with_reducible refine below_st ?_ (by first | exact Nat.le_refl _ | (simp; omega)) _))).trans hb2⟩
        case measure => simp [intOf]; omega
    · obtain rfl : k = m := by omega
      have hS := dk_short hs (p + 2) k
      have HS := Lib.hid hS
      have HO := Lib.hid hO
      have HPL := Lib.hid hO.pool
      clear hO
      go_wp2_with (go_at_call 42; refine (check_any HS.out.fits (dkL_len s (p + 2) k) (by omega) HPL.out _ (Below.refl _ _)).mono ?_; rintro e w1 ⟨rfl, hb1⟩)
      · have hc : ¬ chE (dkL s (p + 2) k) = 0 := bneT (by with_reducible assumption)
        have g := de_4 HP.out h2 (by rw [hm, Int.toNat_natCast]; exact hE) (by rw [hm, Int.toNat_natCast]; exact hc)
        rw [hm, Int.toNat_natCast] at g
        go_ret3
        exact DeRet.nil g (below_on hBr hb1)
      · have hc : chE (dkL s (p + 2) k) = 0 := bneF (by with_reducible assumption)
        have g := de_5 HP.out h2 (by rw [hm, Int.toNat_natCast]; exact hE) (by rw [hm, Int.toNat_natCast]; exact hc)
        rw [hm, Int.toNat_natCast] at g
        go_ret3
        exact ⟨A, k, c, by rw [g.2.1, g.2.2]; rfl, by rw [g.1]; exact dkL_len _ _ _, HO.out.2.1, by rw [g.1]; exact HPL.out.up hb1, below_on hBr hb1⟩

set_option maxRecDepth 100000 in
set_option maxHeartbeats 1000000 in
theorem rdec_in (s : ByteArray) (p : Int) (hs : s.size ≤ 2000000) (hp : 0 ≤ p ∧ p ≤ s.size) (h2 : unsE s p 2 = 0) (w : World) : Calls Tryz.prog 35 #[.string s, .int .i64 p] w (DeRet w s p) := by
  have hB : Below w.heap.size w w := Below.refl _ _
  have hl := un_0 ok2 h2
  have hu := uns2_bd s p
  have HP := Lib.hid hp
  obtain ⟨m, hm⟩ : ∃ m : Nat, unsV s p 2 = (m : Int) := ⟨(unsV s p 2).toNat, by omega⟩
  obtain ⟨hp0, hp1⟩ := hp
  rw [hm] at hu
  go_enter Tryz.func35, Tryz.ntmps35
  go_wp2_with (go_at_call 55; refine (numU_ok s p 2 ok2 (by omega) h2 _).mono ?_; rintro e w' ⟨rfl, rfl⟩)
  go_loopw [1, 9, 10] (fun at' v ctr wr => ∃ (k : Nat) (A : Option Addr) (c : Nat), k ≤ m ∧ ctr = .int .i64 k ∧ at' = .int .i64 (dkN s (p + 2) k) ∧ dkE s (p + 2) k = 0 ∧ v = .slice A k c ∧ OwnP wr w.heap.size A k c (dkL s (p + 2) k) ∧ Below w.heap.size w wr) (fun at' v ctr _ => m - (intOf ctr).toNat)
  case atStart => exact ⟨0, _, 0, Nat.zero_le _, rfl, rfl, rfl, rfl, ⟨rfl, Nat.le_refl _, Or.inl ⟨rfl, rfl⟩⟩, below_al hB _⟩
  case round =>
    obtain ⟨k, A, c, hk, rfl, rfl, hE, rfl, hO, hBr⟩ := hrel
    have hpos := dk_pos (s := s) (p := p + 2) (by omega) k hE
    by_cases hlt : k < m
    · have hsz := hBr.size
      have HO := Lib.hid hO
      have HPOS := Lib.hid hpos
      clear hO hpos
      go_wp2_with (first | (go_at_call 56; refine (tk_any s _ (by omega) HPOS.out _).mono ?_; rintro e w1 ⟨c', q', rfl, hcq, hb1⟩; have HBW := hb1; have hza : wr.heap.size ≤ w1.heap.size := HBW.size; have HCQ := Lib.hid hcq; clear hcq hb1) | (at_builtin; refine wpList_append_own (n := k) (m := 1) (M := [c']) (by rfl) _ _ (by rfl) (by rfl) (HO.out.below (by repeat (first | with_reducible exact HBW | with_reducible refine below_al ?_ _ | with_reducible refine below_st ?_ (by first | exact Nat.le_refl _ | (simp; omega)) _))) (by omega) (by simp; omega) (by rfl) (one_cells (new_at (by simp; done))) rfl Nat.zero_lt_one (by show 1 ≤ 100000; omega) ?_; intro A2 d2 w2 hO2 hb2))
      · have hd : ¬ dcE s (dkN s (p + 2) k) = 0 := bneT (by with_reducible assumption)
        have e1 := dkE_ok hE
        have e2 := dkE_stay (s := s) (p := p + 2) (k := k + 1) (by rw [e1]; exact hd) m (by omega)
        have g := de_3 HP.out h2 (by rw [hm, Int.toNat_natCast, e2, e1]; exact hd)
        rw [hm, Int.toNat_natCast, e2, e1] at g
        go_ret3
        exact DeRet.nil g (below_on hBr (by repeat (first | with_reducible exact HBW | with_reducible refine below_al ?_ _ | with_reducible refine below_st ?_ (by first | exact Nat.le_refl _ | (simp; omega)) _)))
      · have hd : dcE s (dkN s (p + 2) k) = 0 := bneF (by with_reducible assumption)
        obtain ⟨x1, x2⟩ := HCQ.out hd
        subst x1
        subst x2
        go_roundw
        case rel => exact ⟨k + 1, A2, d2, by omega, by go_num, rfl, (dkE_ok hE).trans hd, rfl, hO2, (below_on hBr (by repeat (first | with_reducible exact HBW | with_reducible refine below_al ?_ _ | with_reducible refine below_st ?_ (by first | exact Nat.le_refl _ | (simp; omega)) _))).trans hb2⟩
        case measure => simp [intOf]; omega
    · obtain rfl : k = m := by omega
      have hS := dk_short hs (p + 2) k
      have HS := Lib.hid hS
      have HO := Lib.hid hO
      have HPL := Lib.hid hO.pool
      clear hO
      go_wp2_with (go_at_call 49; refine (rcheck_any HS.out (dkL_len s (p + 2) k) (by omega) HPL.out _ (Below.refl _ _)).mono ?_; rintro e w1 ⟨rfl, hb1⟩)
      · have hc : ¬ chE (dkL s (p + 2) k) = 0 := bneT (by with_reducible assumption)
        have g := de_4 HP.out h2 (by rw [hm, Int.toNat_natCast]; exact hE) (by rw [hm, Int.toNat_natCast]; exact hc)
        rw [hm, Int.toNat_natCast] at g
        go_ret3
        exact DeRet.nil g (below_on hBr hb1)
      · have hc : chE (dkL s (p + 2) k) = 0 := bneF (by with_reducible assumption)
        have g := de_5 HP.out h2 (by rw [hm, Int.toNat_natCast]; exact hE) (by rw [hm, Int.toNat_natCast]; exact hc)
        rw [hm, Int.toNat_natCast] at g
        go_ret3
        exact ⟨A, k, c, by rw [g.2.1, g.2.2]; rfl, by rw [g.1]; exact dkL_len _ _ _, HO.out.2.1, by rw [g.1]; exact HPL.out.up hb1, below_on hBr hb1⟩

end Go.Proofs.YthfegbhbokhlkaaGreatDoor

/- PcPure -/
/- Layer 6: what is written is read again, and what is read is written again. -/
namespace Go.Proofs.YthfegbhbokhlkaaGreatDoor
open Go.ChangeShapes Go.WideShapes Go.ChangeAt Go.RowKit Go.PlainAid
set_option linter.unusedSimpArgs false
set_option linter.unusedVariables false

def Rng (p : Cn) : Prop := -9223372036854775808 ≤ p.n ∧ p.n ≤ 9223372036854775807

/- bytes -/
theorem bt_at {s : ByteArray} {k : Nat} (h : k < s.data.toList.length) : bt s k = ((s.data.toList[k]).toNat : Int) := by
  rw [bt_dataO, List.getD_eq_getElem?_getD, List.getElem?_eq_getElem h]; rfl
theorem len_dt (s : ByteArray) : s.data.toList.length = s.size := by simp
theorem bt_ext {a b : ByteArray} (hs : a.size = b.size) (h : ∀ i, i < a.size → bt a i = bt b i) : a = b := by
  apply ByteArray.ext
  apply Array.ext'
  apply List.ext_getElem
  · rw [len_dt, len_dt]; exact hs
  · intro i h1 h2
    have := h i (by rwa [len_dt] at h1)
    rw [bt_at h1, bt_at h2] at this
    exact UInt8.toNat_inj.1 (by omega)
theorem bt_ex {s : ByteArray} {p q i : Nat} (hq : q ≤ s.size) (h : p + i < q) : bt (s.extract p q) i = bt s (p + i) := by
  have hl : (s.extract p q).data.toList = (s.data.toList.drop p).take (q - p) := data_extract s p q
  rw [bt_dataO, bt_dataO, hl]
  rw [List.getD_eq_getElem?_getD, List.getD_eq_getElem?_getD, List.getElem?_take, if_pos (by omega), List.getElem?_drop]
theorem sz_ex {s : ByteArray} {p q : Nat} (hp : p ≤ q) (hq : q ≤ s.size) : (s.extract p q).size = q - p := by
  rw [ByteArray.size_extract]; omega
theorem ex_ap {s : ByteArray} {a b c : Nat} (h1 : a ≤ b) (h2 : b ≤ c) (h3 : c ≤ s.size) : s.extract a b ++ s.extract b c = s.extract a c := by
  refine bt_ext (by rw [ByteArray.size_append, sz_ex h1 (by omega), sz_ex h2 h3, sz_ex (by omega) h3]; omega) fun i hi => ?_
  rw [ByteArray.size_append, sz_ex h1 (by omega), sz_ex h2 h3] at hi
  rw [bt_ex h3 (by omega)]
  rcases Nat.lt_or_ge i (b - a) with h | h
  · rw [bt_left _ _ _ (by rw [sz_ex h1 (by omega)]; exact h), bt_ex (by omega) (by omega)]
  · have e : i = (s.extract a b).size + (i - (b - a)) := by rw [sz_ex h1 (by omega)]; omega
    rw [e, bt_right, bt_ex h3 (by omega), sz_ex h1 (by omega)]
    congr 1; omega

/- reading -/
theorem un_v {s : ByteArray} {p z : Int} (h : unsE s p z = 0) : unsV s p z = rdU (fromB s p.toNat) z.toNat := by unfold unsV; rw [if_pos h]
theorem un_in {s : ByteArray} {p z : Int} (hz : okSize z) (h0 : 0 ≤ p) (h1 : p + z ≤ s.size) : unsE s p z = 0 := by
  have : 0 < z := by unfold okSize at hz; omega
  unfold unsE
  rw [if_neg (by simpa using hz), if_neg (by omega), if_neg (by omega)]
theorem un_3 {s : ByteArray} {p z : Int} (hz : okSize z) (h0 : 0 ≤ p ∧ p ≤ s.size) (h1 : s.size < p + z) : unsE s p z = 3 := by
  unfold unsE
  rw [if_neg (by simpa using hz), if_neg (by omega), if_pos (by omega)]
theorem rd_eq {f g : Nat → Int} : ∀ z : Nat, (∀ i, i < z → f i = g i) → rdU f z = rdU g z
  | 0, _ => rfl
  | z + 1, h => by
    unfold rdU
    rw [rd_eq z (fun i hi => h i (by omega)), h z (by omega)]

/- b stands in s at p -/
def Sits (s : ByteArray) (p : Nat) (b : ByteArray) : Prop := p + b.size ≤ s.size ∧ ∀ i, i < b.size → bt s (p + i) = bt b i
theorem sits_mid (x b y : ByteArray) : Sits (x ++ b ++ y) x.size b := by
  refine ⟨by rw [ByteArray.size_append, ByteArray.size_append]; omega, fun i hi => mid_bytes x b y i hi⟩
theorem Sits.left {s a b : ByteArray} {p : Nat} (h : Sits s p (a ++ b)) : Sits s p a := by
  refine ⟨by have := h.1; rw [ByteArray.size_append] at this; omega, fun i hi => ?_⟩
  rw [h.2 i (by rw [ByteArray.size_append]; omega), bt_left _ _ _ hi]
theorem Sits.right {s a b : ByteArray} {p : Nat} (h : Sits s p (a ++ b)) : Sits s (p + a.size) b := by
  refine ⟨by have := h.1; rw [ByteArray.size_append] at this; omega, fun i hi => ?_⟩
  rw [Nat.add_assoc, h.2 _ (by rw [ByteArray.size_append]; omega), bt_right]
theorem Sits.cut {s b : ByteArray} {p : Nat} (h : Sits s p b) : s.extract p (p + b.size) = b := by
  have h1 := h.1
  refine bt_ext (by rw [sz_ex (by omega) h1]; omega) fun i hi => ?_
  rw [sz_ex (by omega) h1] at hi
  rw [bt_ex h1 (by omega), h.2 i (by omega)]
theorem putB_ok {n z : Int} (hz : okSize z) (hf : fitsP n z) : putB n z = strOfNums (putL n z) := by unfold putB; rw [if_pos ⟨hz, hf⟩]
theorem putB_sz {n z : Int} (hz : okSize z) (hf : fitsP n z) : ((putB n z).size : Int) = z := by
  rw [putB_ok hz hf, strOfNums_size, putL_len n z hz]
  have : 0 < z := by unfold okSize at hz; omega
  omega
theorem Sits.uns {s : ByteArray} {p : Nat} {n z : Int} (hz : okSize z) (hf : fitsP n z) (hn : -9223372036854775808 ≤ n ∧ n ≤ 9223372036854775807) (h : Sits s p (putB n z)) : unsE s p z = 0 ∧ unsV s p z = unsOf n z := by
  have hsz := putB_sz hz hf
  have h1 := h.1
  have e := un_in (s := s) (p := p) hz (by omega) (by omega)
  refine ⟨e, ?_⟩
  rw [un_v e]
  obtain ⟨y, rfl⟩ : ∃ y : Nat, z = y := ⟨z.toNat, by unfold okSize at hz; omega⟩
  rw [Int.toNat_natCast, Int.toNat_natCast]
  refine rd_put _ n y hz hn fun i hi => ?_
  unfold fromB
  rw [h.2 i (by omega), putB_ok hz hf, bt_nums _ _ (by rw [putL_len n y hz]; exact hi) (putL_bd n y i)]
theorem Sits.str {s t : ByteArray} {p : Nat} (ht : t.size ≤ 65535) (h : Sits s p (psB t)) : gsE s p = 0 ∧ gsB s p = t ∧ gsN s p = p + (psB t).size := by
  have hf : fitsP t.size 2 := by unfold fitsP; omega
  have e : psB t = putB t.size 2 ++ t := by unfold psB; rw [if_pos ht, putB_ok ok2 hf]
  rw [e] at h ⊢
  have hu := h.left.uns ok2 hf (by omega)
  have hsz := putB_sz ok2 hf
  have hr := h.right
  have h1 := h.1
  rw [ByteArray.size_append] at h1
  have hv : unsV s p 2 = t.size := by rw [hu.2]; unfold unsOf; rw [if_neg (by decide), if_pos rfl]; omega
  have hE : gsE s p = 0 := by unfold gsE; rw [if_neg (by simpa using hu.1), if_neg (by omega)]
  refine ⟨hE, ?_, ?_⟩
  · unfold gsB
    rw [if_pos hE, hv]
    have := hr.cut
    rw [show ((p : Int) + 2).toNat = p + (putB t.size 2).size by omega, show ((p : Int) + 2 + t.size).toNat = p + (putB t.size 2).size + t.size by omega]
    exact this
  · unfold gsN
    rw [if_pos hE, hv, ByteArray.size_append]
    omega

/-- a constant that its own bytes say -/
def Good (c : Cn) : Prop :=
  (c.t = 1 ∧ c.n = 0 ∧ c.a = 0 ∧ c.b = 0 ∧ c.s.size ≤ 1024) ∨ (c.t = 3 ∧ c.s = ⟨#[]⟩ ∧ c.a = 0 ∧ c.b = 0 ∧ -2147483648 ≤ c.n ∧ c.n ≤ 2147483647)
    ∨ (c.t = 5 ∧ c.s = ⟨#[]⟩ ∧ c.a = 0 ∧ c.b = 0 ∧ Rng c)
    ∨ ((c.t = 7 ∨ c.t = 8) ∧ c.s = ⟨#[]⟩ ∧ c.n = 0 ∧ c.b = 0 ∧ 0 ≤ c.a ∧ c.a ≤ 65535)
    ∨ ((9 ≤ c.t ∧ c.t ≤ 12) ∧ c.s = ⟨#[]⟩ ∧ c.n = 0 ∧ 0 ≤ c.a ∧ c.a ≤ 65535 ∧ 0 ≤ c.b ∧ c.b ≤ 65535)
theorem fit1 {t : Int} (h : 0 ≤ t ∧ t ≤ 255) : fitsP t 1 := by unfold fitsP; omega
theorem fit2 {t : Int} (h : 0 ≤ t ∧ t ≤ 65535) : fitsP t 2 := by unfold fitsP; omega
theorem of2 {t : Int} (h : 0 ≤ t ∧ t ≤ 65535) : unsOf t 2 = t := by unfold unsOf; rw [if_neg (by decide), if_pos rfl]; omega
theorem of1 {t : Int} (h : 0 ≤ t ∧ t ≤ 255) : unsOf t 1 = t := by unfold unsOf; rw [if_pos rfl]; omega
theorem good_put {s : ByteArray} {p : Nat} {c : Cn} (hc : Good c) (h : Sits s p (enc1 c)) : dcE s p = 0 ∧ dcC s p = c ∧ dcN s p = p + (enc1 c).size := by
  obtain ⟨t, x, m, a, b⟩ := c
  have ht : 0 ≤ t ∧ t ≤ 255 := by unfold Good at hc; simp only at hc; omega
  have z1 := putB_sz ok1 (fit1 ht)
  have key : ∀ y, enc1 ⟨t, x, m, a, b⟩ = putB t 1 ++ y → unsE s p 1 = 0 ∧ unsV s p 1 = t ∧ Sits s (p + 1) y ∧ ((enc1 ⟨t, x, m, a, b⟩).size : Int) = 1 + y.size := by
    intro y hy
    rw [hy] at h ⊢
    have hu := h.left.uns ok1 (fit1 ht) (by omega)
    rw [of1 ht] at hu
    refine ⟨hu.1, hu.2, ?_, by rw [ByteArray.size_append]; omega⟩
    have := h.right
    rwa [show p + (putB t 1).size = p + 1 by omega] at this
  rcases hc with ⟨h1, h2, h3, h4, h5⟩ | ⟨h1, h2, h3, h4, h5⟩ | ⟨h1, h2, h3, h4, h5⟩ | ⟨h1, h2, h3, h4, h5⟩ | ⟨h1, h2, h3, h4, h5, h6⟩
  all_goals simp only at h1 h2 h3 h4
  · subst h1 h2 h3 h4
    simp only at h5
    obtain ⟨k1, k2, k3, k4⟩ := key _ (e1_1 (c := ⟨1, x, 0, 0, 0⟩) rfl)
    replace k3 : Sits s (p + 1) (psB x) := k3
    obtain ⟨g1, g2, g3⟩ := dw_1 k1 k2
    obtain ⟨q1, q2, q3⟩ := Sits.str (by omega) k3
    rw [g1, g2, g3, k2]
    have e : ((p + 1 : Nat) : Int) = (p : Int) + 1 := by omega
    rw [e] at q1 q2 q3
    exact ⟨q1, by rw [q2], by rw [q3, k4]; show (p : Int) + 1 + (psB x).size = p + (1 + (psB x).size); omega⟩
  · subst h1 h2 h3 h4
    simp only at h5
    obtain ⟨k1, k2, k3, k4⟩ := key _ (e1_3 (c := ⟨3, ⟨#[]⟩, m, 0, 0⟩) rfl rfl)
    obtain ⟨g1, g2, g3⟩ := dw_3 k1 k2
    have hf : fitsP m 4 := by unfold fitsP; omega
    have q := Sits.uns ok4 hf (by omega) k3
    have e : ((p + 1 : Nat) : Int) = (p : Int) + 1 := by omega
    rw [e] at q
    have z4 := putB_sz ok4 hf
    rw [g1, g2, g3, k2]
    refine ⟨q.1, ?_, by rw [k4]; simp only; omega⟩
    have : sigV s ((p : Int) + 1) 4 = m := by
      unfold sigV; rw [q.2]
      unfold sgn unsOf
      simp
      omega
    rw [this]
  · subst h1 h2 h3 h4
    simp only [Rng] at h5
    obtain ⟨k1, k2, k3, k4⟩ := key _ (e1_5 (c := ⟨5, ⟨#[]⟩, m, 0, 0⟩) rfl rfl rfl)
    obtain ⟨g1, g2, g3⟩ := dw_5 k1 k2
    have hf : fitsP m 8 := Or.inl rfl
    have q := Sits.uns ok8 hf h5 k3
    have e : ((p + 1 : Nat) : Int) = (p : Int) + 1 := by omega
    rw [e] at q
    have z4 := putB_sz ok8 hf
    rw [g1, g2, g3, k2]
    refine ⟨q.1, ?_, by rw [k4]; simp only; omega⟩
    have : sigV s ((p : Int) + 1) 8 = m := by
      unfold sigV; rw [q.2]
      unfold sgn unsOf
      simp
    rw [this]
  · subst h2 h3 h4
    simp only at h5
    obtain ⟨k1, k2, k3, k4⟩ := key (putB a 2) (by rcases h1 with rfl | rfl; exact e1_7 (c := ⟨7, ⟨#[]⟩, 0, a, 0⟩) rfl rfl rfl (Or.inl rfl); exact e1_7 (c := ⟨8, ⟨#[]⟩, 0, a, 0⟩) rfl rfl rfl (Or.inr rfl))
    obtain ⟨g1, g2, g3⟩ := dw_7 k1 (k2.symm ▸ h1)
    have q := Sits.uns ok2 (fit2 h5) (by omega) k3
    have e : ((p + 1 : Nat) : Int) = (p : Int) + 1 := by omega
    rw [e, of2 h5] at q
    have z4 := putB_sz ok2 (fit2 h5)
    rw [g1, g2, g3, k2]
    exact ⟨q.1, by rw [q.2], by rw [k4]; omega⟩
  · subst h2 h3
    simp only at h4 h5 h6
    have hm : enc1 ⟨t, ⟨#[]⟩, 0, a, b⟩ = putB t 1 ++ (putB a 2 ++ putB b 2) := by
      have e : ∀ k : Int, k < 9 → (t == k) = false := fun k hk => by simpa using (by omega : ¬ t = k)
      exact e1_m (c := ⟨t, ⟨#[]⟩, 0, a, b⟩) (e 1 (by decide)) (e 3 (by decide)) (e 5 (by decide)) (e 7 (by decide)) (e 8 (by decide))
    obtain ⟨k1, k2, k3, k4⟩ := key _ hm
    have ha : 0 ≤ a ∧ a ≤ 65535 := by omega
    have hb : 0 ≤ b ∧ b ≤ 65535 := by omega
    have za := putB_sz ok2 (fit2 ha)
    have zb := putB_sz ok2 (fit2 hb)
    have qa := Sits.uns ok2 (fit2 ha) (by omega) k3.left
    have qb := Sits.uns ok2 (fit2 hb) (by omega) k3.right
    have e : ((p + 1 : Nat) : Int) = (p : Int) + 1 := by omega
    have e3 : ((p + 1 + (putB a 2).size : Nat) : Int) = (p : Int) + 3 := by omega
    rw [e, of2 ha] at qa
    rw [e3, of2 hb] at qb
    obtain ⟨g1, g2, g3⟩ := dw_m k1 (k2.symm ▸ h1) qa.1
    rw [g1, g2, g3, k2, qa.2, qb.2]
    exact ⟨qb.1, rfl, by rw [k4, ByteArray.size_append]; omega⟩

theorem fm_parts {t m a b : Int} {s : ByteArray} (h : fmB t s m a b = true) : (t = 1 ∨ s = ⟨#[]⟩) ∧ (t = 3 ∨ t = 5 ∨ m = 0) ∧ (t = 7 ∨ t = 8 ∨ t = 12 ∨ mtB t = true ∨ a = 0) ∧ (t = 12 ∨ mtB t = true ∨ b = 0) := by
  unfold fmB at h
  simp only [Bool.and_eq_true, Bool.or_eq_true, beq_iff_eq] at h
  obtain ⟨h1, h2, h3, h4⟩ := h
  refine ⟨h1.imp id (fun e => s_nil.2 e), ?_, ?_, ?_⟩
  · rcases h2 with (h | h) | h <;> simp [h]
  · rcases h3 with (((h | h) | h) | h) | h <;> simp [h]
  · rcases h4 with (h | h) | h <;> simp [h]
theorem tg_ix {L : List Cn} {i t : Int} (hl : L.length ≤ 1000) (h : tgE L i t = 0) : 0 ≤ i ∧ i ≤ 65535 := by
  obtain ⟨k, p, h1, h2, _⟩ := tg_here h
  omega
theorem ix_zero {L : List Cn} {t a b : Int} (h : ixE L t a b = 0) : bxE L t a b = 0 := by
  by_cases h1 : bxE L t a b = 0
  · exact h1
  · rw [ix_bad h1] at h; exact absurd h h1
theorem ck_good {L : List Cn} (hl : L.length ≤ 1000) {c : Cn} (hr : Rng c) (h : ck L c = 0) : Good c := by
  obtain ⟨t, x, m, a, b⟩ := c
  replace h : ckE L t x m a b = 0 := h
  cases hk : knB t with
  | false => rw [ck_un hk] at h; cases h
  | true =>
    cases hf : fmB t x m a b with
    | false => rw [ck_mal hk hf] at h; cases h
    | true =>
      obtain ⟨f1, f2, f3, f4⟩ := fm_parts hf
      rcases kn_cases hk with rfl | rfl | rfl | rfl | rfl | rfl | rfl | rfl | rfl
      · left
        have e3 : a = 0 := by rcases f3 with h | h | h | h | h <;> first | exact h | (exact absurd h (by decide))
        have e4 : b = 0 := by rcases f4 with h | h | h <;> first | exact h | (exact absurd h (by decide))
        have e2 : m = 0 := by rcases f2 with h | h | h <;> first | exact h | (exact absurd h (by decide))
        refine ⟨rfl, e2, e3, e4, ?_⟩
        show x.size ≤ 1024
        rcases Nat.lt_or_ge 1024 x.size with h1 | h1
        · rw [ck1_8 hf h1] at h; cases h
        · exact h1
      · right; left
        have e1 : x = ⟨#[]⟩ := by rcases f1 with h | h <;> first | exact h | (exact absurd h (by decide))
        have e3 : a = 0 := by rcases f3 with h | h | h | h | h <;> first | exact h | (exact absurd h (by decide))
        have e4 : b = 0 := by rcases f4 with h | h | h <;> first | exact h | (exact absurd h (by decide))
        refine ⟨rfl, e1, e3, e4, ?_⟩
        by_cases h1 : -2147483648 ≤ m ∧ m ≤ 2147483647
        · exact h1
        · rw [ck3_8 hf h1] at h; cases h
      · right; right; left
        have e1 : x = ⟨#[]⟩ := by rcases f1 with h | h <;> first | exact h | (exact absurd h (by decide))
        have e3 : a = 0 := by rcases f3 with h | h | h | h | h <;> first | exact h | (exact absurd h (by decide))
        have e4 : b = 0 := by rcases f4 with h | h | h <;> first | exact h | (exact absurd h (by decide))
        exact ⟨rfl, e1, e3, e4, hr⟩
      · right; right; right; left
        have e1 : x = ⟨#[]⟩ := by rcases f1 with h | h <;> first | exact h | (exact absurd h (by decide))
        have e2 : m = 0 := by rcases f2 with h | h | h <;> first | exact h | (exact absurd h (by decide))
        have e4 : b = 0 := by rcases f4 with h | h | h <;> first | exact h | (exact absurd h (by decide))
        rw [ck_ix (by decide) hk hf] at h
        have h1 := ix_zero h
        rw [bx7] at h1
        exact ⟨Or.inl rfl, e1, e2, e4, tg_ix hl h1⟩
      · right; right; right; left
        have e1 : x = ⟨#[]⟩ := by rcases f1 with h | h <;> first | exact h | (exact absurd h (by decide))
        have e2 : m = 0 := by rcases f2 with h | h | h <;> first | exact h | (exact absurd h (by decide))
        have e4 : b = 0 := by rcases f4 with h | h | h <;> first | exact h | (exact absurd h (by decide))
        rw [ck_ix (by decide) hk hf] at h
        have h1 := ix_zero h
        rw [bx8] at h1
        exact ⟨Or.inr rfl, e1, e2, e4, tg_ix hl h1⟩
      · right; right; right; right
        have e1 : x = ⟨#[]⟩ := by rcases f1 with h | h <;> first | exact h | (exact absurd h (by decide))
        have e2 : m = 0 := by rcases f2 with h | h | h <;> first | exact h | (exact absurd h (by decide))
        rw [ck_ix (by decide) hk hf] at h
        have h1 := ix_zero h
        have ha : tgE L a 1 = 0 := by
          by_cases hx : tgE L a 1 = 0
          · exact hx
          · rw [bx12_1 hx] at h1; exact absurd h1 hx
        rw [bx12_2 ha] at h1
        have qa := tg_ix hl ha
        have qb := tg_ix hl h1
        exact ⟨⟨by dsimp only; decide, by dsimp only; decide⟩, e1, e2, qa.1, qa.2, qb.1, qb.2⟩
      all_goals
        right; right; right; right
        have e1 : x = ⟨#[]⟩ := by rcases f1 with h | h <;> first | exact h | (exact absurd h (by decide))
        have e2 : m = 0 := by rcases f2 with h | h | h <;> first | exact h | (exact absurd h (by decide))
        rw [ck_ix (by decide) hk hf] at h
        have h1 := ix_zero h
        have ha : tgE L a 7 = 0 := by
          by_cases hx : tgE L a 7 = 0
          · exact hx
          · rw [bxm_1 (by decide) hx] at h1; exact absurd h1 hx
        rw [bxm_2 (by decide) ha] at h1
        have qa := tg_ix hl ha
        have qb := tg_ix hl h1
        exact ⟨⟨by dsimp only; decide, by dsimp only; decide⟩, e1, e2, qa.1, qa.2, qb.1, qb.2⟩
theorem ch_good {L : List Cn} (h : chE L = 0) (hr : ∀ c ∈ L, Rng c) : L.length ≤ 1000 ∧ ∀ c ∈ L, Good c := by
  obtain ⟨h1, h2⟩ := ch_zero h
  exact ⟨h1, fun c hc => ck_good h1 (hr c hc) (h2 c hc)⟩

/- all the constants' bytes -/
def catE : List Cn → ByteArray
  | [] => ⟨#[]⟩
  | c :: r => enc1 c ++ catE r
theorem encP_cat (n : Nat) (L : List Cn) : encP n L = putB n 2 ++ catE L := by
  have key : ∀ (L : List Cn) (x : ByteArray), L.foldl (fun x c => x ++ enc1 c) x = x ++ catE L := by
    intro L
    induction L with
    | nil => intro x; exact (ap_nil x).symm
    | cons c r ih => intro x; rw [List.foldl_cons, ih, ap_assoc]; rfl
  exact key L _
theorem catE_ap (A B : List Cn) : catE (A ++ B) = catE A ++ catE B := by
  induction A with
  | nil =>
    show catE B = (⟨#[]⟩ : ByteArray) ++ catE B
    exact ByteArray.ext (by rw [ByteArray.data_append]; simp)
  | cons c r ih => show enc1 c ++ catE (r ++ B) = enc1 c ++ catE r ++ catE B; rw [ih, ap_assoc]
theorem dk_put {s : ByteArray} {p : Nat} {L : List Cn} (hg : ∀ c ∈ L, Good c) (h : Sits s p (catE L)) : ∀ k, k ≤ L.length → dkE s p k = 0 ∧ dkL s p k = L.take k ∧ dkN s p k = p + (catE (L.take k)).size
  | 0, _ => ⟨rfl, rfl, by show (p : Int) = p + (0 : Nat); omega⟩
  | k + 1, hk => by
    obtain ⟨i1, i2, i3⟩ := dk_put hg h k (by omega)
    have hc : L[k]? = some L[k] := List.getElem?_eq_getElem hk
    have ht : L.take (k + 1) = L.take k ++ [L[k]] := by rw [List.take_add_one, hc]; rfl
    have hd : L = L.take k ++ (L[k] :: L.drop (k + 1)) := by
      conv => lhs; rw [← List.take_append_drop k L, List.drop_eq_getElem_cons hk]
    have h1 : Sits s p (catE (L.take k) ++ (enc1 L[k] ++ catE (L.drop (k + 1)))) := by
      have := h
      rw [hd, catE_ap] at this
      exact this
    obtain ⟨g1, g2, g3⟩ := good_put (hg _ (List.getElem_mem hk)) h1.right.left
    have e : ((p + (catE (L.take k)).size : Nat) : Int) = dkN s p k := by rw [i3]; omega
    rw [e] at g1 g2 g3
    have hz : (catE (L.take (k + 1))).size = (catE (L.take k)).size + (enc1 L[k]).size := by
      rw [ht, catE_ap, ByteArray.size_append]
      show _ + (enc1 L[k] ++ (⟨#[]⟩ : ByteArray)).size = _
      rw [ap_nil]
    refine ⟨by rw [dkE_ok i1]; exact g1, by rw [dkL_snoc, i2, g2, ht], by rw [dkN_snoc, g3, hz, ← e]; omega⟩
theorem dec_enc {L : List Cn} (hch : chE L = 0) (hr : ∀ c ∈ L, Rng c) (x y : ByteArray) :
    deL (x ++ encS L ++ y) x.size = L ∧ deN (x ++ encS L ++ y) x.size = x.size + (encS L).size ∧ deE (x ++ encS L ++ y) x.size = 0 ∧ unsE (x ++ encS L ++ y) x.size 2 = 0 ∧ unsV (x ++ encS L ++ y) x.size 2 = L.length ∧ dkE (x ++ encS L ++ y) (x.size + 2) L.length = 0 ∧ dkN (x ++ encS L ++ y) (x.size + 2) L.length = x.size + (encS L).size := by
  obtain ⟨hl, hg⟩ := ch_good hch hr
  have hS := sits_mid x (encS L) y
  generalize x ++ encS L ++ y = s at *
  rw [enc_ok hch, encP_cat] at hS ⊢
  have hf : fitsP (L.length : Int) 2 := fit2 (by omega)
  have z2 := putB_sz ok2 hf
  have hu := hS.left.uns ok2 hf (by omega)
  rw [of2 (by omega)] at hu
  have h1 := hS.right
  have e : ((x.size + (putB (L.length : Int) 2).size : Nat) : Int) = (x.size : Int) + 2 := by omega
  obtain ⟨g1, g2, g3⟩ := dk_put hg h1 L.length (Nat.le_refl _)
  rw [e] at g1 g2 g3
  rw [List.take_length] at g2 g3
  have hp : 0 ≤ (x.size : Int) ∧ (x.size : Int) ≤ s.size := by have := hS.1; omega
  have hv : (unsV s x.size 2).toNat = L.length := by rw [hu.2]; omega
  have h5 := de_5 hp hu.1 (by rw [hv]; exact g1) (by rw [hv, g2]; exact hch)
  rw [hv] at h5
  rw [g2] at h5
  have hz : ((putB (L.length : Int) 2 ++ catE L).size : Int) = 2 + (catE L).size := by rw [ByteArray.size_append]; omega
  exact ⟨h5.1, by rw [h5.2.1, g3, hz]; omega, h5.2.2, hu.1, hu.2, g1, by rw [g3, hz]; omega⟩

/- a text cut short -/
theorem pf_un {s : ByteArray} {m : Nat} (hm : m ≤ s.size) {p z : Int} (hz : okSize z) (hp : 0 ≤ p ∧ p ≤ m) (h : unsE s p z = 0) :
    (p + z ≤ m → unsE (s.extract 0 m) p z = 0 ∧ unsV (s.extract 0 m) p z = unsV s p z) ∧ (m < p + z → unsE (s.extract 0 m) p z = 3) := by
  have hs : (s.extract 0 m).size = m := by rw [sz_ex (Nat.zero_le _) hm]; omega
  refine ⟨fun hq => ?_, fun hq => un_3 hz (by omega) (by omega)⟩
  have e := un_in (s := s.extract 0 m) hz hp.1 (by omega)
  refine ⟨e, ?_⟩
  rw [un_v e, un_v h]
  refine rd_eq _ fun i hi => ?_
  unfold fromB
  rw [bt_ex hm (by have : 0 < z := by unfold okSize at hz; omega
                   omega), Nat.zero_add]
theorem pf_gs {s : ByteArray} {m : Nat} (hm : m ≤ s.size) {p : Int} (hp : 0 ≤ p ∧ p ≤ m) (h : gsE s p = 0) :
    (gsN s p ≤ m → gsE (s.extract 0 m) p = 0 ∧ gsN (s.extract 0 m) p = gsN s p) ∧ (m < gsN s p → gsE (s.extract 0 m) p = 3) := by
  have hs : (s.extract 0 m).size = m := by rw [sz_ex (Nat.zero_le _) hm]; omega
  have hu : unsE s p 2 = 0 := by
    by_cases h1 : unsE s p 2 = 0
    · exact h1
    · unfold gsE at h; rw [if_pos h1] at h; exact absurd h h1
  have hbd := uns2_bd s p
  have hN : gsN s p = p + 2 + unsV s p 2 := by unfold gsN; rw [if_pos h]
  have hpf := pf_un hm ok2 hp hu
  rw [hN]
  refine ⟨fun hq => ?_, fun hq => ?_⟩
  · obtain ⟨e1, e2⟩ := hpf.1 (by omega)
    have hE : gsE (s.extract 0 m) p = 0 := by unfold gsE; rw [if_neg (by simpa using e1), e2, if_neg (by omega)]
    exact ⟨hE, by unfold gsN; rw [if_pos hE, e2]⟩
  · by_cases h2 : p + 2 ≤ m
    · obtain ⟨e1, e2⟩ := hpf.1 h2
      unfold gsE; rw [if_neg (by simpa using e1), e2, if_pos (by omega)]
    · have e1 := hpf.2 (by omega)
      unfold gsE; rw [if_pos (by omega), e1]
theorem dc_tag {s : ByteArray} {p : Int} (h : dcE s p = 0) : unsE s p 1 = 0 ∧ knB (unsV s p 1) = true := by
  have h0 : unsE s p 1 = 0 := by
    by_cases h1 : unsE s p 1 = 0
    · exact h1
    · rw [dw_0 h1] at h; exact absurd h h1
  refine ⟨h0, ?_⟩
  cases hk : knB (unsV s p 1) with
  | true => rfl
  | false => rw [dw_u h0 hk] at h; cases h
theorem pf_dc {s : ByteArray} {m : Nat} (hm : m ≤ s.size) {p : Int} (hp : 0 ≤ p ∧ p ≤ m) (h : dcE s p = 0) :
    (dcN s p ≤ m → dcE (s.extract 0 m) p = 0 ∧ dcN (s.extract 0 m) p = dcN s p) ∧ (m < dcN s p → dcE (s.extract 0 m) p = 3) := by
  obtain ⟨h0, hk⟩ := dc_tag h
  have hge := (dc_pos (s := s) (q := p) (by omega) h).1
  have hpf := pf_un hm ok1 hp h0
  by_cases hm1 : p + 1 ≤ m
  · obtain ⟨e1, e2⟩ := hpf.1 hm1
    have hp1 : 0 ≤ p + 1 ∧ p + 1 ≤ m := by omega
    rcases kn_cases hk with hv | hv | hv | hv | hv | hv | hv | hv | hv
    · obtain ⟨a1, a2, a3⟩ := dw_1 h0 hv
      obtain ⟨b1, b2, b3⟩ := dw_1 e1 (e2.trans hv)
      rw [a1] at h
      rw [a3, b1, b3]
      exact pf_gs hm hp1 h
    · obtain ⟨a1, a2, a3⟩ := dw_3 h0 hv
      obtain ⟨b1, b2, b3⟩ := dw_3 e1 (e2.trans hv)
      rw [a1] at h
      rw [a3, b1, b3]
      have := pf_un hm ok4 hp1 h
      exact ⟨fun hq => ⟨(this.1 (by omega)).1, rfl⟩, fun hq => this.2 (by omega)⟩
    · obtain ⟨a1, a2, a3⟩ := dw_5 h0 hv
      obtain ⟨b1, b2, b3⟩ := dw_5 e1 (e2.trans hv)
      rw [a1] at h
      rw [a3, b1, b3]
      have := pf_un hm ok8 hp1 h
      exact ⟨fun hq => ⟨(this.1 (by omega)).1, rfl⟩, fun hq => this.2 (by omega)⟩
    · obtain ⟨a1, a2, a3⟩ := dw_7 h0 (Or.inl hv)
      obtain ⟨b1, b2, b3⟩ := dw_7 e1 (Or.inl (e2.trans hv))
      rw [a1] at h
      rw [a3, b1, b3]
      have := pf_un hm ok2 hp1 h
      exact ⟨fun hq => ⟨(this.1 (by omega)).1, rfl⟩, fun hq => this.2 (by omega)⟩
    · obtain ⟨a1, a2, a3⟩ := dw_7 h0 (Or.inr hv)
      obtain ⟨b1, b2, b3⟩ := dw_7 e1 (Or.inr (e2.trans hv))
      rw [a1] at h
      rw [a3, b1, b3]
      have := pf_un hm ok2 hp1 h
      exact ⟨fun hq => ⟨(this.1 (by omega)).1, rfl⟩, fun hq => this.2 (by omega)⟩
    all_goals
      have hr : 9 ≤ unsV s p 1 ∧ unsV s p 1 ≤ 12 := by rw [hv]; decide
      have hr' : 9 ≤ unsV (s.extract 0 m) p 1 ∧ unsV (s.extract 0 m) p 1 ≤ 12 := by rw [e2]; exact hr
      have h2 : unsE s (p + 1) 2 = 0 := by
        by_cases h1 : unsE s (p + 1) 2 = 0
        · exact h1
        · rw [dw_n h0 hr h1] at h; exact absurd h h1
      obtain ⟨a1, a2, a3⟩ := dw_m h0 hr h2
      rw [a1] at h
      have q1 := pf_un hm ok2 hp1 h2
      rw [a3]
      by_cases h3 : p + 3 ≤ m
      · have c1 := (q1.1 (by omega)).1
        obtain ⟨b1, b2, b3⟩ := dw_m e1 hr' c1
        have q2 := pf_un hm ok2 (p := p + 3) (by omega) h
        rw [b1, b3]
        exact ⟨fun hq => ⟨(q2.1 (by omega)).1, rfl⟩, fun hq => q2.2 (by omega)⟩
      · have c1 := q1.2 (by omega)
        refine ⟨fun hq => by omega, fun _ => ?_⟩
        rw [dw_n e1 hr' (by omega), c1]
  · have e1 := hpf.2 (by omega)
    have hlt : p < dcN s p := by
      rcases kn_cases hk with hv | hv | hv | hv | hv | hv | hv | hv | hv
      · obtain ⟨a1, a2, a3⟩ := dw_1 h0 hv
        rw [a1] at h
        rw [a3]
        have hbd := uns2_bd s (p + 1)
        unfold gsN; rw [if_pos h]; omega
      · rw [(dw_3 h0 hv).2.2]; omega
      · rw [(dw_5 h0 hv).2.2]; omega
      · rw [(dw_7 h0 (Or.inl hv)).2.2]; omega
      · rw [(dw_7 h0 (Or.inr hv)).2.2]; omega
      all_goals
        have hr : 9 ≤ unsV s p 1 ∧ unsV s p 1 ≤ 12 := by rw [hv]; decide
        by_cases h1 : unsE s (p + 1) 2 = 0
        · rw [(dw_m h0 hr h1).2.2]; omega
        · rw [dw_n h0 hr h1] at h; exact absurd h h1
    exact ⟨fun hq => by omega, fun _ => by rw [dw_0 (by omega), e1]⟩
theorem pf_dk {s : ByteArray} {m : Nat} (hm : m ≤ s.size) {p : Int} (hp : 0 ≤ p ∧ p ≤ m) {n : Nat} (h : ∀ k, k ≤ n → dkE s p k = 0) : ∀ k, k ≤ n → (dkE (s.extract 0 m) p k = 0 ∧ dkN (s.extract 0 m) p k = dkN s p k ∧ dkN s p k ≤ m) ∨ dkE (s.extract 0 m) p k = 3
  | 0, _ => Or.inl ⟨rfl, rfl, hp.2⟩
  | k + 1, hk => by
    rcases pf_dk hm hp h k (by omega) with ⟨i1, i2, i3⟩ | i1
    · have hb := dk_pos (s := s) (p := p) (by omega) k (h k (by omega))
      have h1 := h (k + 1) hk
      rw [dkE_ok (h k (by omega))] at h1
      have q := pf_dc hm ⟨hb.1, i3⟩ h1
      rw [dkE_ok i1, dkN_snoc, dkN_snoc, i2]
      rcases (by omega : dcN s (dkN s p k) ≤ m ∨ (m : Int) < dcN s (dkN s p k)) with hq | hq
      · exact Or.inl ⟨(q.1 hq).1, (q.1 hq).2, hq⟩
      · exact Or.inr (q.2 hq)
    · right
      rw [dkE_no (by omega), i1]
theorem dec_short {L : List Cn} (hch : chE L = 0) (hr : ∀ c ∈ L, Rng c) (m : Nat) (hm : m < (encS L).size) : deE ((encS L).extract 0 m) 0 = 3 := by
  have h := dec_enc hch hr ⟨#[]⟩ ⟨#[]⟩
  rw [ap_nil, show (⟨#[]⟩ : ByteArray) ++ encS L = encS L from ByteArray.ext (by rw [ByteArray.data_append]; simp)] at h
  generalize encS L = s at *
  obtain ⟨_, _, _, h1, h2, h3, h4⟩ := h
  replace h1 : unsE s 0 2 = 0 := h1
  replace h2 : unsV s 0 2 = L.length := h2
  replace h3 : dkE s 2 L.length = 0 := h3
  replace h4 : dkN s 2 L.length = s.size := by
    have : dkN s 2 L.length = ((0 : Nat) : Int) + s.size := h4
    omega
  have hs : (s.extract 0 m).size = m := by rw [sz_ex (Nat.zero_le _) (by omega)]; omega
  have hp0 : (0 : Int) ≤ 0 ∧ (0 : Int) ≤ (s.extract 0 m).size := by omega
  have q := pf_un (s := s) (m := m) (by omega) ok2 (p := 0) (by omega) h1
  by_cases h5 : 2 ≤ m
  · obtain ⟨e1, e2⟩ := q.1 (by omega)
    rw [h2] at e2
    have hall : ∀ k, k ≤ L.length → dkE s 2 k = 0 := fun k hk => by
      by_cases hx : dkE s 2 k = 0
      · exact hx
      · have := dkE_stay hx L.length hk
        rw [h3] at this
        exact absurd this.symm hx
    have hv : (unsV (s.extract 0 m) 0 2).toNat = L.length := by rw [e2]; omega
    rcases pf_dk (s := s) (m := m) (by omega) (p := 2) (by omega) hall L.length (Nat.le_refl _) with ⟨i1, i2, i3⟩ | i1
    · omega
    · have := de_3 (s := s.extract 0 m) (p := 0) hp0 e1 (by rw [hv]; show ¬ dkE (s.extract 0 m) 2 L.length = 0; omega)
      rw [this.2.2, hv]
      exact i1
  · have e1 := q.2 (by omega)
    rw [(de_2 (s := s.extract 0 m) (p := 0) hp0 (by omega)).2.2, e1]

/- what has been read, written again -/
theorem fromB_bt (s : ByteArray) (p i : Nat) : 0 ≤ fromB s p i ∧ fromB s p i ≤ 255 := fromB_bd s p i
theorem rd1 (f : Nat → Int) (h : ∀ i, 0 ≤ f i ∧ f i ≤ 255) : rdU f 1 = f 0 := by have := h 0; simp only [rdU]; unfold wrap64; omega
theorem rd2 (f : Nat → Int) (h : ∀ i, 0 ≤ f i ∧ f i ≤ 255) : rdU f 2 = f 0 * 256 + f 1 := by
  have := h 0; have := h 1
  rw [rdU, rd1 f h]; unfold wrap64; omega
theorem rd3 (f : Nat → Int) (h : ∀ i, 0 ≤ f i ∧ f i ≤ 255) : rdU f 3 = f 0 * 65536 + f 1 * 256 + f 2 := by
  have := h 0; have := h 1; have := h 2
  rw [rdU, rd2 f h]; unfold wrap64; omega
theorem rd4 (f : Nat → Int) (h : ∀ i, 0 ≤ f i ∧ f i ≤ 255) : rdU f 4 = f 0 * 16777216 + f 1 * 65536 + f 2 * 256 + f 3 := by
  have := h 0; have := h 1; have := h 2; have := h 3
  rw [rdU, rd3 f h]; unfold wrap64; omega
theorem rd5 (f : Nat → Int) (h : ∀ i, 0 ≤ f i ∧ f i ≤ 255) : rdU f 5 = f 0 * 4294967296 + f 1 * 16777216 + f 2 * 65536 + f 3 * 256 + f 4 := by
  have := h 0; have := h 1; have := h 2; have := h 3; have := h 4
  rw [rdU, rd4 f h]; unfold wrap64; omega
theorem rd6 (f : Nat → Int) (h : ∀ i, 0 ≤ f i ∧ f i ≤ 255) : rdU f 6 = f 0 * 1099511627776 + f 1 * 4294967296 + f 2 * 16777216 + f 3 * 65536 + f 4 * 256 + f 5 := by
  have := h 0; have := h 1; have := h 2; have := h 3; have := h 4; have := h 5
  rw [rdU, rd5 f h]; unfold wrap64; omega
theorem rd7 (f : Nat → Int) (h : ∀ i, 0 ≤ f i ∧ f i ≤ 255) : rdU f 7 = f 0 * 281474976710656 + f 1 * 1099511627776 + f 2 * 4294967296 + f 3 * 16777216 + f 4 * 65536 + f 5 * 256 + f 6 := by
  have := h 0; have := h 1; have := h 2; have := h 3; have := h 4; have := h 5; have := h 6
  rw [rdU, rd6 f h]; unfold wrap64; omega
def topB (f : Nat → Int) : Int := f 0 * 72057594037927936 + f 1 * 281474976710656 + f 2 * 1099511627776 + f 3 * 4294967296 + f 4 * 16777216 + f 5 * 65536 + f 6 * 256 + f 7
theorem rd8 (f : Nat → Int) (h : ∀ i, 0 ≤ f i ∧ f i ≤ 255) : rdU f 8 = if f 0 ≤ 127 then topB f else topB f - 18446744073709551616 := by
  have := h 0; have := h 1; have := h 2; have := h 3; have := h 4; have := h 5; have := h 6; have := h 7
  rw [rdU, rd7 f h]; unfold wrap64 topB; split <;> omega
theorem put_rd (f : Nat → Int) (h : ∀ i, 0 ≤ f i ∧ f i ≤ 255) (z : Int) (hz : okSize z) (n : Int) (hn : n = rdU f z.toNat ∨ n = sgn z (rdU f z.toNat)) : fitsP n z ∧ ∀ i, i < z.toNat → (putL n z).getD i 0 = f i := by
  have h0 := h 0; have h1 := h 1; have h2 := h 2; have h3 := h 3; have h4 := h 4; have h5 := h 5; have h6 := h 6; have h7 := h 7
  rcases hz with rfl | rfl | rfl | rfl
  · have e : n = f 0 ∨ n = (f 0 + 128) % 256 - 128 := by
      rcases hn with hn | hn
      · left; rw [hn]; exact rd1 f h
      · right; rw [hn]; show sgn 1 (rdU f 1) = _; rw [rd1 f h]; rfl
    refine ⟨by unfold fitsP; omega, fun i hi => ?_⟩
    obtain rfl : i = 0 := by simp at hi; omega
    simp [putL]; omega
  · have e : n = f 0 * 256 + f 1 ∨ n = (f 0 * 256 + f 1 + 32768) % 65536 - 32768 := by
      rcases hn with hn | hn
      · left; rw [hn]; exact rd2 f h
      · right; rw [hn]; show sgn 2 (rdU f 2) = _; rw [rd2 f h]; rfl
    refine ⟨by unfold fitsP; omega, fun i hi => ?_⟩
    rcases (by simp at hi; omega : i = 0 ∨ i = 1) with rfl | rfl <;> (simp [putL]; omega)
  · have e : n = f 0 * 16777216 + f 1 * 65536 + f 2 * 256 + f 3 ∨ n = (f 0 * 16777216 + f 1 * 65536 + f 2 * 256 + f 3 + 2147483648) % 4294967296 - 2147483648 := by
      rcases hn with hn | hn
      · left; rw [hn]; exact rd4 f h
      · right; rw [hn]; show sgn 4 (rdU f 4) = _; rw [rd4 f h]; rfl
    refine ⟨by unfold fitsP; omega, fun i hi => ?_⟩
    rcases (by simp at hi; omega : i = 0 ∨ i = 1 ∨ i = 2 ∨ i = 3) with rfl | rfl | rfl | rfl <;> (simp [putL]; omega)
  · have e : n = topB f ∨ n = topB f - 18446744073709551616 := by
      have e8 : n = rdU f 8 := by rcases hn with hn | hn <;> exact hn
      rw [rd8 f h] at e8
      split at e8
      · exact Or.inl e8
      · exact Or.inr e8
    unfold topB at e
    refine ⟨Or.inl rfl, fun i hi => ?_⟩
    rcases (by simp at hi; omega : i = 0 ∨ i = 1 ∨ i = 2 ∨ i = 3 ∨ i = 4 ∨ i = 5 ∨ i = 6 ∨ i = 7) with rfl | rfl | rfl | rfl | rfl | rfl | rfl | rfl <;> (simp [putL]; omega)
theorem put_un {s : ByteArray} {p z : Int} (hz : okSize z) (h : unsE s p z = 0) (n : Int) (hn : n = unsV s p z ∨ n = sigV s p z) : putB n z = s.extract p.toNat (p + z).toNat := by
  obtain ⟨hp0, hp1⟩ := un_0 hz h
  have hz1 : 1 ≤ z ∧ z ≤ 8 := by unfold okSize at hz; omega
  unfold sigV at hn
  rw [un_v h] at hn
  obtain ⟨hf, hb⟩ := put_rd (fromB s p.toNat) (fun i => fromB_bd s p.toNat i) z hz n hn
  rw [putB_ok hz hf]
  have hl := putL_len n z hz
  refine bt_ext (by rw [strOfNums_size, hl, sz_ex (by omega) (by omega)]; omega) fun i hi => ?_
  rw [strOfNums_size, hl] at hi
  rw [bt_nums _ _ (by rw [hl]; exact hi) (putL_bd n z i), hb i hi, bt_ex (by omega) (by omega)]
  rfl
theorem put_gs {s : ByteArray} {p : Int} (h : gsE s p = 0) : psB (gsB s p) = s.extract p.toNat (gsN s p).toNat ∧ p + 2 ≤ gsN s p ∧ gsN s p ≤ s.size := by
  have hu : unsE s p 2 = 0 := by
    by_cases h1 : unsE s p 2 = 0
    · exact h1
    · unfold gsE at h; rw [if_pos h1] at h; exact absurd h h1
  have hbd := uns2_bd s p
  obtain ⟨hp0, hp1⟩ := un_0 ok2 hu
  have hlen : unsV s p 2 ≤ s.size - (p + 2) := by
    unfold gsE at h
    rw [if_neg (by simpa using hu)] at h
    split at h
    · cases h
    · omega
  have hN : gsN s p = p + 2 + unsV s p 2 := by unfold gsN; rw [if_pos h]
  have hB : gsB s p = s.extract (p + 2).toNat (p + 2 + unsV s p 2).toNat := by unfold gsB; rw [if_pos h]
  refine ⟨?_, by omega, by omega⟩
  have hz : ((gsB s p).size : Int) = unsV s p 2 := by rw [hB, sz_ex (by omega) (by omega)]; omega
  unfold psB
  rw [if_pos (by omega), hz]
  have := put_un ok2 hu (unsV s p 2) (Or.inl rfl)
  rw [putB_ok ok2 (fit2 hbd)] at this
  rw [this, hB, ex_ap (by omega) (by omega) (by omega), hN]
theorem dc_enc {s : ByteArray} {p : Int} (hp : 0 ≤ p ∧ p ≤ s.size) (h : dcE s p = 0) : enc1 (dcC s p) = s.extract p.toNat (dcN s p).toNat := by
  obtain ⟨h0, hk⟩ := dc_tag h
  obtain ⟨_, hp1⟩ := un_0 ok1 h0
  have t1 := put_un ok1 h0 (unsV s p 1) (Or.inl rfl)
  have ne : ∀ {t k : Int}, t ≠ k → (t == k) = false := fun hk => by simpa using hk
  rcases kn_cases hk with hv | hv | hv | hv | hv | hv | hv | hv | hv
  · obtain ⟨a1, a2, a3⟩ := dw_1 h0 hv
    rw [a1] at h
    obtain ⟨g1, g2, g3⟩ := put_gs h
    rw [a2, a3, e1_1 (c := ⟨unsV s p 1, gsB s (p + 1), 0, 0, 0⟩) (by simpa using hv), t1, g1]
    exact ex_ap (by omega) (by omega) (by omega)
  · obtain ⟨a1, a2, a3⟩ := dw_3 h0 hv
    rw [a1] at h
    have q := un_0 ok4 h
    rw [a2, a3, e1_3 (c := ⟨unsV s p 1, ⟨#[]⟩, sigV s (p + 1) 4, 0, 0⟩) (ne (by dsimp only; omega)) (by simpa using hv), t1, put_un ok4 h _ (Or.inr rfl), ex_ap (by omega) (by omega) (by omega)]
    congr 1; omega
  · obtain ⟨a1, a2, a3⟩ := dw_5 h0 hv
    rw [a1] at h
    have q := un_0 ok8 h
    rw [a2, a3, e1_5 (c := ⟨unsV s p 1, ⟨#[]⟩, sigV s (p + 1) 8, 0, 0⟩) (ne (by dsimp only; omega)) (ne (by dsimp only; omega)) (by simpa using hv), t1, put_un ok8 h _ (Or.inr rfl), ex_ap (by omega) (by omega) (by omega)]
    congr 1; omega
  · obtain ⟨a1, a2, a3⟩ := dw_7 h0 (Or.inl hv)
    rw [a1] at h
    have q := un_0 ok2 h
    rw [a2, a3, e1_7 (c := ⟨unsV s p 1, ⟨#[]⟩, 0, unsV s (p + 1) 2, 0⟩) (ne (by dsimp only; omega)) (ne (by dsimp only; omega)) (ne (by dsimp only; omega)) (Or.inl (by simpa using hv)), t1, put_un ok2 h _ (Or.inl rfl), ex_ap (by omega) (by omega) (by omega)]
    congr 1; omega
  · obtain ⟨a1, a2, a3⟩ := dw_7 h0 (Or.inr hv)
    rw [a1] at h
    have q := un_0 ok2 h
    rw [a2, a3, e1_7 (c := ⟨unsV s p 1, ⟨#[]⟩, 0, unsV s (p + 1) 2, 0⟩) (ne (by dsimp only; omega)) (ne (by dsimp only; omega)) (ne (by dsimp only; omega)) (Or.inr (by simpa using hv)), t1, put_un ok2 h _ (Or.inl rfl), ex_ap (by omega) (by omega) (by omega)]
    congr 1; omega
  all_goals
    have hr : 9 ≤ unsV s p 1 ∧ unsV s p 1 ≤ 12 := by rw [hv]; decide
    have h2 : unsE s (p + 1) 2 = 0 := by
      by_cases h1 : unsE s (p + 1) 2 = 0
      · exact h1
      · rw [dw_n h0 hr h1] at h; exact absurd h h1
    obtain ⟨a1, a2, a3⟩ := dw_m h0 hr h2
    rw [a1] at h
    have q := un_0 ok2 h
    rw [a2, a3, e1_m (c := ⟨unsV s p 1, ⟨#[]⟩, 0, unsV s (p + 1) 2, unsV s (p + 3) 2⟩) (ne (by dsimp only; omega)) (ne (by dsimp only; omega)) (ne (by dsimp only; omega)) (ne (by dsimp only; omega)) (ne (by dsimp only; omega)), t1]
    rw [show putB (unsV s (p + 1) 2) 2 = _ from put_un ok2 h2 _ (Or.inl rfl), show putB (unsV s (p + 3) 2) 2 = _ from put_un ok2 h _ (Or.inl rfl)]
    rw [show (p + 1 + 2).toNat = (p + 3).toNat by omega, ex_ap (by omega) (by omega) (by omega), ex_ap (by omega) (by omega) (by omega)]
    congr 1; omega
theorem dk_enc {s : ByteArray} {p : Int} (hp : 0 ≤ p ∧ p ≤ s.size) : ∀ k, dkE s p k = 0 → catE (dkL s p k) = s.extract p.toNat (dkN s p k).toNat ∧ p ≤ dkN s p k ∧ dkN s p k ≤ s.size
  | 0, _ => by
    refine ⟨?_, Int.le_refl _, hp.2⟩
    show (⟨#[]⟩ : ByteArray) = s.extract p.toNat p.toNat
    refine bt_ext (by rw [sz_ex (Nat.le_refl _) (by omega), Nat.sub_self]; rfl) fun i hi => ?_
    exact absurd hi (Nat.not_lt_zero _)
  | k + 1, h => by
    have h1 : dkE s p k = 0 := by
      by_cases h1 : dkE s p k = 0
      · exact h1
      · rw [dkE_no h1] at h; exact h
    obtain ⟨i1, i2, i3⟩ := dk_enc hp k h1
    rw [dkE_ok h1] at h
    have hq : 0 ≤ dkN s p k ∧ dkN s p k ≤ s.size := by omega
    obtain ⟨j1, j2⟩ := dc_pos hq h
    rw [dkL_snoc, catE_ap, i1]
    have e : catE [dcC s (dkN s p k)] = enc1 (dcC s (dkN s p k)) := ap_nil _
    rw [e, dc_enc hq h, ex_ap (by omega) (by omega) (by omega), dkN_snoc]
    exact ⟨rfl, by omega, by omega⟩
theorem de_zero {s : ByteArray} {p : Int} (h : deE s p = 0) : (0 ≤ p ∧ p ≤ s.size) ∧ unsE s p 2 = 0 ∧ dkE s (p + 2) (unsV s p 2).toNat = 0 ∧ chE (dkL s (p + 2) (unsV s p 2).toNat) = 0 := by
  by_cases h1 : 0 ≤ p ∧ p ≤ s.size
  · by_cases h2 : unsE s p 2 = 0
    · by_cases h3 : dkE s (p + 2) (unsV s p 2).toNat = 0
      · by_cases h4 : chE (dkL s (p + 2) (unsV s p 2).toNat) = 0
        · exact ⟨h1, h2, h3, h4⟩
        · rw [(de_4 h1 h2 h3 h4).2.2] at h; exact absurd h h4
      · rw [(de_3 h1 h2 h3).2.2] at h; exact absurd h h3
    · rw [(de_2 h1 h2).2.2] at h; exact absurd h h2
  · rw [(de_1 h1).2.2] at h; cases h
theorem de_bad {s : ByteArray} {p : Int} (h : ¬ deE s p = 0) : deL s p = [] ∧ deN s p = 0 := by
  by_cases h1 : 0 ≤ p ∧ p ≤ s.size
  · by_cases h2 : unsE s p 2 = 0
    · by_cases h3 : dkE s (p + 2) (unsV s p 2).toNat = 0
      · by_cases h4 : chE (dkL s (p + 2) (unsV s p 2).toNat) = 0
        · exact absurd (de_5 h1 h2 h3 h4).2.2 h
        · exact ⟨(de_4 h1 h2 h3 h4).1, (de_4 h1 h2 h3 h4).2.1⟩
      · exact ⟨(de_3 h1 h2 h3).1, (de_3 h1 h2 h3).2.1⟩
    · exact ⟨(de_2 h1 h2).1, (de_2 h1 h2).2.1⟩
  · exact ⟨(de_1 h1).1, (de_1 h1).2.1⟩
theorem canon {s : ByteArray} {p : Int} (h : deE s p = 0) : 0 ≤ p ∧ p ≤ deN s p ∧ deN s p ≤ s.size ∧ chE (deL s p) = 0 ∧ encS (deL s p) = s.extract p.toNat (deN s p).toNat := by
  obtain ⟨hp, h2, h3, h4⟩ := de_zero h
  have hbd := uns2_bd s p
  have hu := un_0 ok2 h2
  obtain ⟨g1, g2, _⟩ := de_5 hp h2 h3 h4
  obtain ⟨i1, i2, i3⟩ := dk_enc (s := s) (p := p + 2) (by omega) _ h3
  rw [g1, g2]
  refine ⟨hp.1, by omega, i3, h4, ?_⟩
  rw [enc_ok h4, encP_cat, dkL_len, i1]
  have : ((unsV s p 2).toNat : Int) = unsV s p 2 := by omega
  rw [this, put_un ok2 h2 _ (Or.inl rfl), ex_ap (by omega) (by omega) (by omega)]

end Go.Proofs.YthfegbhbokhlkaaGreatDoor
