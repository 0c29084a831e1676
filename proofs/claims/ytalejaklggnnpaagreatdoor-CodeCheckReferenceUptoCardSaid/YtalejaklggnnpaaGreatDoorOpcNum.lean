import Derived.Test.YtalejaklggnnpaaGreatDoorKitS
/- Contracts of package opcode and of its reference: the functions on numbers. (Written by wip/gen/opc.py.) -/
namespace Go.Proofs.YtalejaklggnnpaaGreatDoor.I
open Go.ChangeShapes Go.WideShapes Go.ChangeAt Go.RowKit
set_option linter.unusedSimpArgs false
set_option linter.unusedVariables false
def kindV (o : Int) : Int := if o < 0 ∨ 80 < o then -1 else if o = 2 then 1 else if o = 3 ∨ (59 ≤ o ∧ o ≤ 68) ∨ o = 76 ∨ o = 77 then 2 else if 36 ≤ o ∧ o ≤ 52 then 3
 else if 4 ≤ o ∧ o ≤ 9 then 4 else if o = 10 then 5 else if o = 53 then 6 else if o = 54 then 7 else 0
def sizeV (o : Int) : Int := if kindV o = 0 then 1 else if kindV o = 1 ∨ kindV o = 4 then 2 else if kindV o = 2 ∨ kindV o = 3 ∨ kindV o = 5 then 3 else 0
def tagsL (o : Int) : List Int := if o = 3 then [3, 5, 8] else if 59 ≤ o ∧ o ≤ 62 then [9] else if o = 63 then [10] else if o = 64 ∨ o = 65 then [10, 11] else if o = 66 then [11]
 else if o = 67 ∨ o = 76 ∨ o = 77 then [7] else if o = 68 then [1] else []
def termB (o : Int) : Bool := decide ((52 ≤ o ∧ o ≤ 58) ∨ o = 78)
def brB (o : Int) : Bool := decide (36 ≤ o ∧ o ≤ 54)
def takesB (o : Int) : Bool := decide (o = 3 ∨ (59 ≤ o ∧ o ≤ 68) ∨ o = 76 ∨ o = 77)
/-- a slice of the numbers l, laid as the next block; no block for none -/
def tagsV (w : World) (l : List Int) : Value := if l = [] then .slice none 0 0 else .slice (some ⟨w.heap.size, 0, none⟩) l.length l.length
def tagsW (w : World) (l : List Int) : World := if l = [] then w else w.alloc (.cells (l.map (Value.int .i64)).toArray 3)
def inB (a b o : Int) : Bool := decide (a ≤ o ∧ o ≤ b)
theorem inB_yes {a b o : Int} (h : a ≤ o ∧ o ≤ b) : inB a b o = true := by unfold inB; exact decide_eq_true h
theorem inB_no {a b o : Int} (h : ¬ (a ≤ o ∧ o ≤ b)) : inB a b o = false := by unfold inB; exact decide_eq_false h
theorem opc_cases (o : Int) : o < 0 ∨ (0 ≤ o ∧ o ≤ 1) ∨ (2 ≤ o ∧ o ≤ 2) ∨ (3 ≤ o ∧ o ≤ 3) ∨ (4 ≤ o ∧ o ≤ 9) ∨ (10 ≤ o ∧ o ≤ 10) ∨ (11 ≤ o ∧ o ≤ 35) ∨ (36 ≤ o ∧ o ≤ 51) ∨ (52 ≤ o ∧ o ≤ 52) ∨ (53 ≤ o ∧ o ≤ 53) ∨ (54 ≤ o ∧ o ≤ 54) ∨ (55 ≤ o ∧ o ≤ 58) ∨ (59 ≤ o ∧ o ≤ 62) ∨ (63 ≤ o ∧ o ≤ 63) ∨ (64 ≤ o ∧ o ≤ 65) ∨ (66 ≤ o ∧ o ≤ 66) ∨ (67 ≤ o ∧ o ≤ 67) ∨ (68 ≤ o ∧ o ≤ 68) ∨ (69 ≤ o ∧ o ≤ 75) ∨ (76 ≤ o ∧ o ≤ 77) ∨ (78 ≤ o ∧ o ≤ 78) ∨ (79 ≤ o ∧ o ≤ 80) ∨ 80 < o := by omega
theorem vals_l (o : Int) (h1 : o ≤ -1) : kindV o = -1 ∧ sizeV o = 0 ∧ tagsL o = [] ∧ termB o = false ∧ brB o = false ∧ takesB o = false := by
 have hk : kindV o = -1 := by unfold kindV; repeat (first | rw [if_pos (by omega)] | rw [if_neg (by omega)])
 refine ⟨hk, by unfold sizeV; rw [hk]; decide, ?_, ?_, ?_, ?_⟩
 ·
  unfold tagsL; repeat (first | rw [if_pos (by omega)] | rw [if_neg (by omega)])
 ·
  unfold termB; simp; omega
 ·
  unfold brB; simp; omega
 ·
  unfold takesB; simp; omega
theorem vals_c0 (o : Int) (h0 : 0 ≤ o) (h1 : o ≤ 1) : kindV o = 0 ∧ sizeV o = 1 ∧ tagsL o = [] ∧ termB o = false ∧ brB o = false ∧ takesB o = false := by
 have hk : kindV o = 0 := by unfold kindV; repeat (first | rw [if_pos (by omega)] | rw [if_neg (by omega)])
 refine ⟨hk, by unfold sizeV; rw [hk]; decide, ?_, ?_, ?_, ?_⟩
 ·
  unfold tagsL; repeat (first | rw [if_pos (by omega)] | rw [if_neg (by omega)])
 ·
  unfold termB; simp; omega
 ·
  unfold brB; simp; omega
 ·
  unfold takesB; simp; omega
theorem vals_c2 (o : Int) (h0 : 2 ≤ o) (h1 : o ≤ 2) : kindV o = 1 ∧ sizeV o = 2 ∧ tagsL o = [] ∧ termB o = false ∧ brB o = false ∧ takesB o = false := by
 have hk : kindV o = 1 := by unfold kindV; repeat (first | rw [if_pos (by omega)] | rw [if_neg (by omega)])
 refine ⟨hk, by unfold sizeV; rw [hk]; decide, ?_, ?_, ?_, ?_⟩
 ·
  unfold tagsL; repeat (first | rw [if_pos (by omega)] | rw [if_neg (by omega)])
 ·
  unfold termB; simp; omega
 ·
  unfold brB; simp; omega
 ·
  unfold takesB; simp; omega
theorem vals_c3 (o : Int) (h0 : 3 ≤ o) (h1 : o ≤ 3) : kindV o = 2 ∧ sizeV o = 3 ∧ tagsL o = [3, 5, 8] ∧ termB o = false ∧ brB o = false ∧ takesB o = true := by
 have hk : kindV o = 2 := by unfold kindV; repeat (first | rw [if_pos (by omega)] | rw [if_neg (by omega)])
 refine ⟨hk, by unfold sizeV; rw [hk]; decide, ?_, ?_, ?_, ?_⟩
 ·
  unfold tagsL; repeat (first | rw [if_pos (by omega)] | rw [if_neg (by omega)])
 ·
  unfold termB; simp; omega
 ·
  unfold brB; simp; omega
 ·
  unfold takesB; simp; omega
theorem vals_c4 (o : Int) (h0 : 4 ≤ o) (h1 : o ≤ 9) : kindV o = 4 ∧ sizeV o = 2 ∧ tagsL o = [] ∧ termB o = false ∧ brB o = false ∧ takesB o = false := by
 have hk : kindV o = 4 := by unfold kindV; repeat (first | rw [if_pos (by omega)] | rw [if_neg (by omega)])
 refine ⟨hk, by unfold sizeV; rw [hk]; decide, ?_, ?_, ?_, ?_⟩
 ·
  unfold tagsL; repeat (first | rw [if_pos (by omega)] | rw [if_neg (by omega)])
 ·
  unfold termB; simp; omega
 ·
  unfold brB; simp; omega
 ·
  unfold takesB; simp; omega
theorem vals_c10 (o : Int) (h0 : 10 ≤ o) (h1 : o ≤ 10) : kindV o = 5 ∧ sizeV o = 3 ∧ tagsL o = [] ∧ termB o = false ∧ brB o = false ∧ takesB o = false := by
 have hk : kindV o = 5 := by unfold kindV; repeat (first | rw [if_pos (by omega)] | rw [if_neg (by omega)])
 refine ⟨hk, by unfold sizeV; rw [hk]; decide, ?_, ?_, ?_, ?_⟩
 ·
  unfold tagsL; repeat (first | rw [if_pos (by omega)] | rw [if_neg (by omega)])
 ·
  unfold termB; simp; omega
 ·
  unfold brB; simp; omega
 ·
  unfold takesB; simp; omega
theorem vals_c11 (o : Int) (h0 : 11 ≤ o) (h1 : o ≤ 35) : kindV o = 0 ∧ sizeV o = 1 ∧ tagsL o = [] ∧ termB o = false ∧ brB o = false ∧ takesB o = false := by
 have hk : kindV o = 0 := by unfold kindV; repeat (first | rw [if_pos (by omega)] | rw [if_neg (by omega)])
 refine ⟨hk, by unfold sizeV; rw [hk]; decide, ?_, ?_, ?_, ?_⟩
 ·
  unfold tagsL; repeat (first | rw [if_pos (by omega)] | rw [if_neg (by omega)])
 ·
  unfold termB; simp; omega
 ·
  unfold brB; simp; omega
 ·
  unfold takesB; simp; omega
theorem vals_c36 (o : Int) (h0 : 36 ≤ o) (h1 : o ≤ 51) : kindV o = 3 ∧ sizeV o = 3 ∧ tagsL o = [] ∧ termB o = false ∧ brB o = true ∧ takesB o = false := by
 have hk : kindV o = 3 := by unfold kindV; repeat (first | rw [if_pos (by omega)] | rw [if_neg (by omega)])
 refine ⟨hk, by unfold sizeV; rw [hk]; decide, ?_, ?_, ?_, ?_⟩
 ·
  unfold tagsL; repeat (first | rw [if_pos (by omega)] | rw [if_neg (by omega)])
 ·
  unfold termB; simp; omega
 ·
  unfold brB; simp; omega
 ·
  unfold takesB; simp; omega
theorem vals_c52 (o : Int) (h0 : 52 ≤ o) (h1 : o ≤ 52) : kindV o = 3 ∧ sizeV o = 3 ∧ tagsL o = [] ∧ termB o = true ∧ brB o = true ∧ takesB o = false := by
 have hk : kindV o = 3 := by unfold kindV; repeat (first | rw [if_pos (by omega)] | rw [if_neg (by omega)])
 refine ⟨hk, by unfold sizeV; rw [hk]; decide, ?_, ?_, ?_, ?_⟩
 ·
  unfold tagsL; repeat (first | rw [if_pos (by omega)] | rw [if_neg (by omega)])
 ·
  unfold termB; simp; omega
 ·
  unfold brB; simp; omega
 ·
  unfold takesB; simp; omega
theorem vals_c53 (o : Int) (h0 : 53 ≤ o) (h1 : o ≤ 53) : kindV o = 6 ∧ sizeV o = 0 ∧ tagsL o = [] ∧ termB o = true ∧ brB o = true ∧ takesB o = false := by
 have hk : kindV o = 6 := by unfold kindV; repeat (first | rw [if_pos (by omega)] | rw [if_neg (by omega)])
 refine ⟨hk, by unfold sizeV; rw [hk]; decide, ?_, ?_, ?_, ?_⟩
 ·
  unfold tagsL; repeat (first | rw [if_pos (by omega)] | rw [if_neg (by omega)])
 ·
  unfold termB; simp; omega
 ·
  unfold brB; simp; omega
 ·
  unfold takesB; simp; omega
theorem vals_c54 (o : Int) (h0 : 54 ≤ o) (h1 : o ≤ 54) : kindV o = 7 ∧ sizeV o = 0 ∧ tagsL o = [] ∧ termB o = true ∧ brB o = true ∧ takesB o = false := by
 have hk : kindV o = 7 := by unfold kindV; repeat (first | rw [if_pos (by omega)] | rw [if_neg (by omega)])
 refine ⟨hk, by unfold sizeV; rw [hk]; decide, ?_, ?_, ?_, ?_⟩
 ·
  unfold tagsL; repeat (first | rw [if_pos (by omega)] | rw [if_neg (by omega)])
 ·
  unfold termB; simp; omega
 ·
  unfold brB; simp; omega
 ·
  unfold takesB; simp; omega
theorem vals_c55 (o : Int) (h0 : 55 ≤ o) (h1 : o ≤ 58) : kindV o = 0 ∧ sizeV o = 1 ∧ tagsL o = [] ∧ termB o = true ∧ brB o = false ∧ takesB o = false := by
 have hk : kindV o = 0 := by unfold kindV; repeat (first | rw [if_pos (by omega)] | rw [if_neg (by omega)])
 refine ⟨hk, by unfold sizeV; rw [hk]; decide, ?_, ?_, ?_, ?_⟩
 ·
  unfold tagsL; repeat (first | rw [if_pos (by omega)] | rw [if_neg (by omega)])
 ·
  unfold termB; simp; omega
 ·
  unfold brB; simp; omega
 ·
  unfold takesB; simp; omega
theorem vals_c59 (o : Int) (h0 : 59 ≤ o) (h1 : o ≤ 62) : kindV o = 2 ∧ sizeV o = 3 ∧ tagsL o = [9] ∧ termB o = false ∧ brB o = false ∧ takesB o = true := by
 have hk : kindV o = 2 := by unfold kindV; repeat (first | rw [if_pos (by omega)] | rw [if_neg (by omega)])
 refine ⟨hk, by unfold sizeV; rw [hk]; decide, ?_, ?_, ?_, ?_⟩
 ·
  unfold tagsL; repeat (first | rw [if_pos (by omega)] | rw [if_neg (by omega)])
 ·
  unfold termB; simp; omega
 ·
  unfold brB; simp; omega
 ·
  unfold takesB; simp; omega
theorem vals_c63 (o : Int) (h0 : 63 ≤ o) (h1 : o ≤ 63) : kindV o = 2 ∧ sizeV o = 3 ∧ tagsL o = [10] ∧ termB o = false ∧ brB o = false ∧ takesB o = true := by
 have hk : kindV o = 2 := by unfold kindV; repeat (first | rw [if_pos (by omega)] | rw [if_neg (by omega)])
 refine ⟨hk, by unfold sizeV; rw [hk]; decide, ?_, ?_, ?_, ?_⟩
 ·
  unfold tagsL; repeat (first | rw [if_pos (by omega)] | rw [if_neg (by omega)])
 ·
  unfold termB; simp; omega
 ·
  unfold brB; simp; omega
 ·
  unfold takesB; simp; omega
theorem vals_c64 (o : Int) (h0 : 64 ≤ o) (h1 : o ≤ 65) : kindV o = 2 ∧ sizeV o = 3 ∧ tagsL o = [10, 11] ∧ termB o = false ∧ brB o = false ∧ takesB o = true := by
 have hk : kindV o = 2 := by unfold kindV; repeat (first | rw [if_pos (by omega)] | rw [if_neg (by omega)])
 refine ⟨hk, by unfold sizeV; rw [hk]; decide, ?_, ?_, ?_, ?_⟩
 ·
  unfold tagsL; repeat (first | rw [if_pos (by omega)] | rw [if_neg (by omega)])
 ·
  unfold termB; simp; omega
 ·
  unfold brB; simp; omega
 ·
  unfold takesB; simp; omega
theorem vals_c66 (o : Int) (h0 : 66 ≤ o) (h1 : o ≤ 66) : kindV o = 2 ∧ sizeV o = 3 ∧ tagsL o = [11] ∧ termB o = false ∧ brB o = false ∧ takesB o = true := by
 have hk : kindV o = 2 := by unfold kindV; repeat (first | rw [if_pos (by omega)] | rw [if_neg (by omega)])
 refine ⟨hk, by unfold sizeV; rw [hk]; decide, ?_, ?_, ?_, ?_⟩
 ·
  unfold tagsL; repeat (first | rw [if_pos (by omega)] | rw [if_neg (by omega)])
 ·
  unfold termB; simp; omega
 ·
  unfold brB; simp; omega
 ·
  unfold takesB; simp; omega
theorem vals_c67 (o : Int) (h0 : 67 ≤ o) (h1 : o ≤ 67) : kindV o = 2 ∧ sizeV o = 3 ∧ tagsL o = [7] ∧ termB o = false ∧ brB o = false ∧ takesB o = true := by
 have hk : kindV o = 2 := by unfold kindV; repeat (first | rw [if_pos (by omega)] | rw [if_neg (by omega)])
 refine ⟨hk, by unfold sizeV; rw [hk]; decide, ?_, ?_, ?_, ?_⟩
 ·
  unfold tagsL; repeat (first | rw [if_pos (by omega)] | rw [if_neg (by omega)])
 ·
  unfold termB; simp; omega
 ·
  unfold brB; simp; omega
 ·
  unfold takesB; simp; omega
theorem vals_c68 (o : Int) (h0 : 68 ≤ o) (h1 : o ≤ 68) : kindV o = 2 ∧ sizeV o = 3 ∧ tagsL o = [1] ∧ termB o = false ∧ brB o = false ∧ takesB o = true := by
 have hk : kindV o = 2 := by unfold kindV; repeat (first | rw [if_pos (by omega)] | rw [if_neg (by omega)])
 refine ⟨hk, by unfold sizeV; rw [hk]; decide, ?_, ?_, ?_, ?_⟩
 ·
  unfold tagsL; repeat (first | rw [if_pos (by omega)] | rw [if_neg (by omega)])
 ·
  unfold termB; simp; omega
 ·
  unfold brB; simp; omega
 ·
  unfold takesB; simp; omega
theorem vals_c69 (o : Int) (h0 : 69 ≤ o) (h1 : o ≤ 75) : kindV o = 0 ∧ sizeV o = 1 ∧ tagsL o = [] ∧ termB o = false ∧ brB o = false ∧ takesB o = false := by
 have hk : kindV o = 0 := by unfold kindV; repeat (first | rw [if_pos (by omega)] | rw [if_neg (by omega)])
 refine ⟨hk, by unfold sizeV; rw [hk]; decide, ?_, ?_, ?_, ?_⟩
 ·
  unfold tagsL; repeat (first | rw [if_pos (by omega)] | rw [if_neg (by omega)])
 ·
  unfold termB; simp; omega
 ·
  unfold brB; simp; omega
 ·
  unfold takesB; simp; omega
theorem vals_c76 (o : Int) (h0 : 76 ≤ o) (h1 : o ≤ 77) : kindV o = 2 ∧ sizeV o = 3 ∧ tagsL o = [7] ∧ termB o = false ∧ brB o = false ∧ takesB o = true := by
 have hk : kindV o = 2 := by unfold kindV; repeat (first | rw [if_pos (by omega)] | rw [if_neg (by omega)])
 refine ⟨hk, by unfold sizeV; rw [hk]; decide, ?_, ?_, ?_, ?_⟩
 ·
  unfold tagsL; repeat (first | rw [if_pos (by omega)] | rw [if_neg (by omega)])
 ·
  unfold termB; simp; omega
 ·
  unfold brB; simp; omega
 ·
  unfold takesB; simp; omega
theorem vals_c78 (o : Int) (h0 : 78 ≤ o) (h1 : o ≤ 78) : kindV o = 0 ∧ sizeV o = 1 ∧ tagsL o = [] ∧ termB o = true ∧ brB o = false ∧ takesB o = false := by
 have hk : kindV o = 0 := by unfold kindV; repeat (first | rw [if_pos (by omega)] | rw [if_neg (by omega)])
 refine ⟨hk, by unfold sizeV; rw [hk]; decide, ?_, ?_, ?_, ?_⟩
 ·
  unfold tagsL; repeat (first | rw [if_pos (by omega)] | rw [if_neg (by omega)])
 ·
  unfold termB; simp; omega
 ·
  unfold brB; simp; omega
 ·
  unfold takesB; simp; omega
theorem vals_c79 (o : Int) (h0 : 79 ≤ o) (h1 : o ≤ 80) : kindV o = 0 ∧ sizeV o = 1 ∧ tagsL o = [] ∧ termB o = false ∧ brB o = false ∧ takesB o = false := by
 have hk : kindV o = 0 := by unfold kindV; repeat (first | rw [if_pos (by omega)] | rw [if_neg (by omega)])
 refine ⟨hk, by unfold sizeV; rw [hk]; decide, ?_, ?_, ?_, ?_⟩
 ·
  unfold tagsL; repeat (first | rw [if_pos (by omega)] | rw [if_neg (by omega)])
 ·
  unfold termB; simp; omega
 ·
  unfold brB; simp; omega
 ·
  unfold takesB; simp; omega
theorem vals_g (o : Int) (h0 : 81 ≤ o) : kindV o = -1 ∧ sizeV o = 0 ∧ tagsL o = [] ∧ termB o = false ∧ brB o = false ∧ takesB o = false := by
 have hk : kindV o = -1 := by unfold kindV; repeat (first | rw [if_pos (by omega)] | rw [if_neg (by omega)])
 refine ⟨hk, by unfold sizeV; rw [hk]; decide, ?_, ?_, ?_, ?_⟩
 ·
  unfold tagsL; repeat (first | rw [if_pos (by omega)] | rw [if_neg (by omega)])
 ·
  unfold termB; simp; omega
 ·
  unfold brB; simp; omega
 ·
  unfold takesB; simp; omega
theorem takes_any (o : Int) (w : World) :
  Calls Tryz.prog 106 #[.int .i64 o] w fun e w' => e = .returned (.bool (takesB o)) ∧ w = w' := by
 rcases opc_cases o with h1 | ⟨h0, h1⟩ | ⟨h0, h1⟩ | ⟨h0, h1⟩ | ⟨h0, h1⟩ | ⟨h0, h1⟩ | ⟨h0, h1⟩ | ⟨h0, h1⟩ | ⟨h0, h1⟩ | ⟨h0, h1⟩ | ⟨h0, h1⟩ | ⟨h0, h1⟩ | ⟨h0, h1⟩ | ⟨h0, h1⟩ | ⟨h0, h1⟩ | ⟨h0, h1⟩ | ⟨h0, h1⟩ | ⟨h0, h1⟩ | ⟨h0, h1⟩ | ⟨h0, h1⟩ | ⟨h0, h1⟩ | ⟨h0, h1⟩ | h0
 ·
  obtain ⟨vk, vs, vt, ve, vb, va⟩ := vals_l o (by omega)
  have hne : ∀ c : Int, 0 ≤ c → (o == c) = false := fun c (h : 0 ≤ c) => beqF (by omega)
  rw [va]; clear vk vs vt ve vb va
  go_enter Tryz.func106, Tryz.ntmps106
  go_wp2
  all_goals
   go_ret
   exact ⟨rfl, rfl⟩
 ·
  obtain ⟨vk, vs, vt, ve, vb, va⟩ := vals_c0 o h0 h1
  have hne : ∀ c : Int, c < 0 ∨ 1 < c → (o == c) = false := fun c (h : c < 0 ∨ 1 < c) => beqF (by omega)
  rw [va]; clear vk vs vt ve vb va
  go_enter Tryz.func106, Tryz.ntmps106
  go_wp2
  all_goals
   go_ret
   exact ⟨rfl, rfl⟩
 ·
  obtain ⟨vk, vs, vt, ve, vb, va⟩ := vals_c2 o h0 h1
  have hne : ∀ c : Int, c < 2 ∨ 2 < c → (o == c) = false := fun c (h : c < 2 ∨ 2 < c) => beqF (by omega)
  obtain rfl : o = 2 := by omega
  clear hne h0 h1
  rw [va]; clear vk vs vt ve vb va
  go_enter Tryz.func106, Tryz.ntmps106
  go_wp2
  all_goals
   go_ret
   exact ⟨rfl, rfl⟩
 ·
  obtain ⟨vk, vs, vt, ve, vb, va⟩ := vals_c3 o h0 h1
  have hne : ∀ c : Int, c < 3 ∨ 3 < c → (o == c) = false := fun c (h : c < 3 ∨ 3 < c) => beqF (by omega)
  obtain rfl : o = 3 := by omega
  clear hne h0 h1
  rw [va]; clear vk vs vt ve vb va
  go_enter Tryz.func106, Tryz.ntmps106
  go_wp2
  all_goals
   go_ret
   exact ⟨rfl, rfl⟩
 ·
  obtain ⟨vk, vs, vt, ve, vb, va⟩ := vals_c4 o h0 h1
  have hne : ∀ c : Int, c < 4 ∨ 9 < c → (o == c) = false := fun c (h : c < 4 ∨ 9 < c) => beqF (by omega)
  rw [va]; clear vk vs vt ve vb va
  go_enter Tryz.func106, Tryz.ntmps106
  go_wp2
  all_goals
   go_ret
   exact ⟨rfl, rfl⟩
 ·
  obtain ⟨vk, vs, vt, ve, vb, va⟩ := vals_c10 o h0 h1
  have hne : ∀ c : Int, c < 10 ∨ 10 < c → (o == c) = false := fun c (h : c < 10 ∨ 10 < c) => beqF (by omega)
  obtain rfl : o = 10 := by omega
  clear hne h0 h1
  rw [va]; clear vk vs vt ve vb va
  go_enter Tryz.func106, Tryz.ntmps106
  go_wp2
  all_goals
   go_ret
   exact ⟨rfl, rfl⟩
 ·
  obtain ⟨vk, vs, vt, ve, vb, va⟩ := vals_c11 o h0 h1
  have hne : ∀ c : Int, c < 11 ∨ 35 < c → (o == c) = false := fun c (h : c < 11 ∨ 35 < c) => beqF (by omega)
  rw [va]; clear vk vs vt ve vb va
  go_enter Tryz.func106, Tryz.ntmps106
  go_wp2
  all_goals
   go_ret
   exact ⟨rfl, rfl⟩
 ·
  obtain ⟨vk, vs, vt, ve, vb, va⟩ := vals_c36 o h0 h1
  have hne : ∀ c : Int, c < 36 ∨ 51 < c → (o == c) = false := fun c (h : c < 36 ∨ 51 < c) => beqF (by omega)
  rw [va]; clear vk vs vt ve vb va
  go_enter Tryz.func106, Tryz.ntmps106
  go_wp2
  all_goals
   go_ret
   exact ⟨rfl, rfl⟩
 ·
  obtain ⟨vk, vs, vt, ve, vb, va⟩ := vals_c52 o h0 h1
  have hne : ∀ c : Int, c < 52 ∨ 52 < c → (o == c) = false := fun c (h : c < 52 ∨ 52 < c) => beqF (by omega)
  obtain rfl : o = 52 := by omega
  clear hne h0 h1
  rw [va]; clear vk vs vt ve vb va
  go_enter Tryz.func106, Tryz.ntmps106
  go_wp2
  all_goals
   go_ret
   exact ⟨rfl, rfl⟩
 ·
  obtain ⟨vk, vs, vt, ve, vb, va⟩ := vals_c53 o h0 h1
  have hne : ∀ c : Int, c < 53 ∨ 53 < c → (o == c) = false := fun c (h : c < 53 ∨ 53 < c) => beqF (by omega)
  obtain rfl : o = 53 := by omega
  clear hne h0 h1
  rw [va]; clear vk vs vt ve vb va
  go_enter Tryz.func106, Tryz.ntmps106
  go_wp2
  all_goals
   go_ret
   exact ⟨rfl, rfl⟩
 ·
  obtain ⟨vk, vs, vt, ve, vb, va⟩ := vals_c54 o h0 h1
  have hne : ∀ c : Int, c < 54 ∨ 54 < c → (o == c) = false := fun c (h : c < 54 ∨ 54 < c) => beqF (by omega)
  obtain rfl : o = 54 := by omega
  clear hne h0 h1
  rw [va]; clear vk vs vt ve vb va
  go_enter Tryz.func106, Tryz.ntmps106
  go_wp2
  all_goals
   go_ret
   exact ⟨rfl, rfl⟩
 ·
  obtain ⟨vk, vs, vt, ve, vb, va⟩ := vals_c55 o h0 h1
  have hne : ∀ c : Int, c < 55 ∨ 58 < c → (o == c) = false := fun c (h : c < 55 ∨ 58 < c) => beqF (by omega)
  rw [va]; clear vk vs vt ve vb va
  go_enter Tryz.func106, Tryz.ntmps106
  go_wp2
  all_goals
   go_ret
   exact ⟨rfl, rfl⟩
 ·
  obtain ⟨vk, vs, vt, ve, vb, va⟩ := vals_c59 o h0 h1
  have hne : ∀ c : Int, c < 59 ∨ 62 < c → (o == c) = false := fun c (h : c < 59 ∨ 62 < c) => beqF (by omega)
  rw [va]; clear vk vs vt ve vb va
  go_enter Tryz.func106, Tryz.ntmps106
  go_wp2
  all_goals
   go_ret
   exact ⟨rfl, rfl⟩
 ·
  obtain ⟨vk, vs, vt, ve, vb, va⟩ := vals_c63 o h0 h1
  have hne : ∀ c : Int, c < 63 ∨ 63 < c → (o == c) = false := fun c (h : c < 63 ∨ 63 < c) => beqF (by omega)
  obtain rfl : o = 63 := by omega
  clear hne h0 h1
  rw [va]; clear vk vs vt ve vb va
  go_enter Tryz.func106, Tryz.ntmps106
  go_wp2
  all_goals
   go_ret
   exact ⟨rfl, rfl⟩
 ·
  obtain ⟨vk, vs, vt, ve, vb, va⟩ := vals_c64 o h0 h1
  have hne : ∀ c : Int, c < 64 ∨ 65 < c → (o == c) = false := fun c (h : c < 64 ∨ 65 < c) => beqF (by omega)
  rw [va]; clear vk vs vt ve vb va
  go_enter Tryz.func106, Tryz.ntmps106
  go_wp2
  all_goals
   go_ret
   exact ⟨rfl, rfl⟩
 ·
  obtain ⟨vk, vs, vt, ve, vb, va⟩ := vals_c66 o h0 h1
  have hne : ∀ c : Int, c < 66 ∨ 66 < c → (o == c) = false := fun c (h : c < 66 ∨ 66 < c) => beqF (by omega)
  obtain rfl : o = 66 := by omega
  clear hne h0 h1
  rw [va]; clear vk vs vt ve vb va
  go_enter Tryz.func106, Tryz.ntmps106
  go_wp2
  all_goals
   go_ret
   exact ⟨rfl, rfl⟩
 ·
  obtain ⟨vk, vs, vt, ve, vb, va⟩ := vals_c67 o h0 h1
  have hne : ∀ c : Int, c < 67 ∨ 67 < c → (o == c) = false := fun c (h : c < 67 ∨ 67 < c) => beqF (by omega)
  obtain rfl : o = 67 := by omega
  clear hne h0 h1
  rw [va]; clear vk vs vt ve vb va
  go_enter Tryz.func106, Tryz.ntmps106
  go_wp2
  all_goals
   go_ret
   exact ⟨rfl, rfl⟩
 ·
  obtain ⟨vk, vs, vt, ve, vb, va⟩ := vals_c68 o h0 h1
  have hne : ∀ c : Int, c < 68 ∨ 68 < c → (o == c) = false := fun c (h : c < 68 ∨ 68 < c) => beqF (by omega)
  obtain rfl : o = 68 := by omega
  clear hne h0 h1
  rw [va]; clear vk vs vt ve vb va
  go_enter Tryz.func106, Tryz.ntmps106
  go_wp2
  all_goals
   go_ret
   exact ⟨rfl, rfl⟩
 ·
  obtain ⟨vk, vs, vt, ve, vb, va⟩ := vals_c69 o h0 h1
  have hne : ∀ c : Int, c < 69 ∨ 75 < c → (o == c) = false := fun c (h : c < 69 ∨ 75 < c) => beqF (by omega)
  rw [va]; clear vk vs vt ve vb va
  go_enter Tryz.func106, Tryz.ntmps106
  go_wp2
  all_goals
   go_ret
   exact ⟨rfl, rfl⟩
 ·
  obtain ⟨vk, vs, vt, ve, vb, va⟩ := vals_c76 o h0 h1
  have hne : ∀ c : Int, c < 76 ∨ 77 < c → (o == c) = false := fun c (h : c < 76 ∨ 77 < c) => beqF (by omega)
  rw [va]; clear vk vs vt ve vb va
  go_enter Tryz.func106, Tryz.ntmps106
  go_wp2
  all_goals
   go_ret
   exact ⟨rfl, rfl⟩
 ·
  obtain ⟨vk, vs, vt, ve, vb, va⟩ := vals_c78 o h0 h1
  have hne : ∀ c : Int, c < 78 ∨ 78 < c → (o == c) = false := fun c (h : c < 78 ∨ 78 < c) => beqF (by omega)
  obtain rfl : o = 78 := by omega
  clear hne h0 h1
  rw [va]; clear vk vs vt ve vb va
  go_enter Tryz.func106, Tryz.ntmps106
  go_wp2
  all_goals
   go_ret
   exact ⟨rfl, rfl⟩
 ·
  obtain ⟨vk, vs, vt, ve, vb, va⟩ := vals_c79 o h0 h1
  have hne : ∀ c : Int, c < 79 ∨ 80 < c → (o == c) = false := fun c (h : c < 79 ∨ 80 < c) => beqF (by omega)
  rw [va]; clear vk vs vt ve vb va
  go_enter Tryz.func106, Tryz.ntmps106
  go_wp2
  all_goals
   go_ret
   exact ⟨rfl, rfl⟩
 ·
  obtain ⟨vk, vs, vt, ve, vb, va⟩ := vals_g o (by omega)
  have hne : ∀ c : Int, c ≤ 80 → (o == c) = false := fun c (h : c ≤ 80) => beqF (by omega)
  rw [va]; clear vk vs vt ve vb va
  go_enter Tryz.func106, Tryz.ntmps106
  go_wp2
  all_goals
   go_ret
   exact ⟨rfl, rfl⟩
theorem kind_any (o : Int) (w : World) :
  Calls Tryz.prog 60 #[.int .i64 o] w fun e w' => e = .returned (.int .i64 (kindV o)) ∧ w = w' := by
 rcases opc_cases o with h1 | ⟨h0, h1⟩ | ⟨h0, h1⟩ | ⟨h0, h1⟩ | ⟨h0, h1⟩ | ⟨h0, h1⟩ | ⟨h0, h1⟩ | ⟨h0, h1⟩ | ⟨h0, h1⟩ | ⟨h0, h1⟩ | ⟨h0, h1⟩ | ⟨h0, h1⟩ | ⟨h0, h1⟩ | ⟨h0, h1⟩ | ⟨h0, h1⟩ | ⟨h0, h1⟩ | ⟨h0, h1⟩ | ⟨h0, h1⟩ | ⟨h0, h1⟩ | ⟨h0, h1⟩ | ⟨h0, h1⟩ | ⟨h0, h1⟩ | h0
 ·
  obtain ⟨vk, vs, vt, ve, vb, va⟩ := vals_l o (by omega)
  have hne : ∀ c : Int, 0 ≤ c → (o == c) = false := fun c (h : 0 ≤ c) => beqF (by omega)
  rw [vk]; clear vk vs vt ve vb
  go_enter Tryz.func60, Tryz.ntmps60
  go_wp2_with (go_at_call 106; refine (takes_any _ _).mono ?_; rintro e w' ⟨rfl, rfl⟩)
  all_goals
   go_ret
   exact ⟨rfl, rfl⟩
 ·
  obtain ⟨vk, vs, vt, ve, vb, va⟩ := vals_c0 o h0 h1
  have hne : ∀ c : Int, c < 0 ∨ 1 < c → (o == c) = false := fun c (h : c < 0 ∨ 1 < c) => beqF (by omega)
  rw [vk]; clear vk vs vt ve vb
  go_enter Tryz.func60, Tryz.ntmps60
  go_wp2_with (go_at_call 106; refine (takes_any _ _).mono ?_; rintro e w' ⟨rfl, rfl⟩)
  all_goals
   go_ret
   exact ⟨rfl, rfl⟩
 ·
  obtain ⟨vk, vs, vt, ve, vb, va⟩ := vals_c2 o h0 h1
  have hne : ∀ c : Int, c < 2 ∨ 2 < c → (o == c) = false := fun c (h : c < 2 ∨ 2 < c) => beqF (by omega)
  obtain rfl : o = 2 := by omega
  clear hne h0 h1
  rw [vk]; clear vk vs vt ve vb
  go_enter Tryz.func60, Tryz.ntmps60
  go_wp2_with (go_at_call 106; refine (takes_any _ _).mono ?_; rintro e w' ⟨rfl, rfl⟩)
  all_goals
   go_ret
   exact ⟨rfl, rfl⟩
 ·
  obtain ⟨vk, vs, vt, ve, vb, va⟩ := vals_c3 o h0 h1
  have hne : ∀ c : Int, c < 3 ∨ 3 < c → (o == c) = false := fun c (h : c < 3 ∨ 3 < c) => beqF (by omega)
  obtain rfl : o = 3 := by omega
  clear hne h0 h1
  rw [vk]; clear vk vs vt ve vb
  go_enter Tryz.func60, Tryz.ntmps60
  go_wp2_with (go_at_call 106; refine (takes_any _ _).mono ?_; rintro e w' ⟨rfl, rfl⟩)
  all_goals
   go_ret
   exact ⟨rfl, rfl⟩
 ·
  obtain ⟨vk, vs, vt, ve, vb, va⟩ := vals_c4 o h0 h1
  have hne : ∀ c : Int, c < 4 ∨ 9 < c → (o == c) = false := fun c (h : c < 4 ∨ 9 < c) => beqF (by omega)
  rw [vk]; clear vk vs vt ve vb
  go_enter Tryz.func60, Tryz.ntmps60
  go_wp2_with (go_at_call 106; refine (takes_any _ _).mono ?_; rintro e w' ⟨rfl, rfl⟩)
  all_goals
   go_ret
   exact ⟨rfl, rfl⟩
 ·
  obtain ⟨vk, vs, vt, ve, vb, va⟩ := vals_c10 o h0 h1
  have hne : ∀ c : Int, c < 10 ∨ 10 < c → (o == c) = false := fun c (h : c < 10 ∨ 10 < c) => beqF (by omega)
  obtain rfl : o = 10 := by omega
  clear hne h0 h1
  rw [vk]; clear vk vs vt ve vb
  go_enter Tryz.func60, Tryz.ntmps60
  go_wp2_with (go_at_call 106; refine (takes_any _ _).mono ?_; rintro e w' ⟨rfl, rfl⟩)
  all_goals
   go_ret
   exact ⟨rfl, rfl⟩
 ·
  obtain ⟨vk, vs, vt, ve, vb, va⟩ := vals_c11 o h0 h1
  have hne : ∀ c : Int, c < 11 ∨ 35 < c → (o == c) = false := fun c (h : c < 11 ∨ 35 < c) => beqF (by omega)
  rw [vk]; clear vk vs vt ve vb
  go_enter Tryz.func60, Tryz.ntmps60
  go_wp2_with (go_at_call 106; refine (takes_any _ _).mono ?_; rintro e w' ⟨rfl, rfl⟩)
  all_goals
   go_ret
   exact ⟨rfl, rfl⟩
 ·
  obtain ⟨vk, vs, vt, ve, vb, va⟩ := vals_c36 o h0 h1
  have hne : ∀ c : Int, c < 36 ∨ 51 < c → (o == c) = false := fun c (h : c < 36 ∨ 51 < c) => beqF (by omega)
  rw [vk]; clear vk vs vt ve vb
  go_enter Tryz.func60, Tryz.ntmps60
  go_wp2_with (go_at_call 106; refine (takes_any _ _).mono ?_; rintro e w' ⟨rfl, rfl⟩)
  all_goals
   go_ret
   exact ⟨rfl, rfl⟩
 ·
  obtain ⟨vk, vs, vt, ve, vb, va⟩ := vals_c52 o h0 h1
  have hne : ∀ c : Int, c < 52 ∨ 52 < c → (o == c) = false := fun c (h : c < 52 ∨ 52 < c) => beqF (by omega)
  obtain rfl : o = 52 := by omega
  clear hne h0 h1
  rw [vk]; clear vk vs vt ve vb
  go_enter Tryz.func60, Tryz.ntmps60
  go_wp2_with (go_at_call 106; refine (takes_any _ _).mono ?_; rintro e w' ⟨rfl, rfl⟩)
  all_goals
   go_ret
   exact ⟨rfl, rfl⟩
 ·
  obtain ⟨vk, vs, vt, ve, vb, va⟩ := vals_c53 o h0 h1
  have hne : ∀ c : Int, c < 53 ∨ 53 < c → (o == c) = false := fun c (h : c < 53 ∨ 53 < c) => beqF (by omega)
  obtain rfl : o = 53 := by omega
  clear hne h0 h1
  rw [vk]; clear vk vs vt ve vb
  go_enter Tryz.func60, Tryz.ntmps60
  go_wp2_with (go_at_call 106; refine (takes_any _ _).mono ?_; rintro e w' ⟨rfl, rfl⟩)
  all_goals
   go_ret
   exact ⟨rfl, rfl⟩
 ·
  obtain ⟨vk, vs, vt, ve, vb, va⟩ := vals_c54 o h0 h1
  have hne : ∀ c : Int, c < 54 ∨ 54 < c → (o == c) = false := fun c (h : c < 54 ∨ 54 < c) => beqF (by omega)
  obtain rfl : o = 54 := by omega
  clear hne h0 h1
  rw [vk]; clear vk vs vt ve vb
  go_enter Tryz.func60, Tryz.ntmps60
  go_wp2_with (go_at_call 106; refine (takes_any _ _).mono ?_; rintro e w' ⟨rfl, rfl⟩)
  all_goals
   go_ret
   exact ⟨rfl, rfl⟩
 ·
  obtain ⟨vk, vs, vt, ve, vb, va⟩ := vals_c55 o h0 h1
  have hne : ∀ c : Int, c < 55 ∨ 58 < c → (o == c) = false := fun c (h : c < 55 ∨ 58 < c) => beqF (by omega)
  rw [vk]; clear vk vs vt ve vb
  go_enter Tryz.func60, Tryz.ntmps60
  go_wp2_with (go_at_call 106; refine (takes_any _ _).mono ?_; rintro e w' ⟨rfl, rfl⟩)
  all_goals
   go_ret
   exact ⟨rfl, rfl⟩
 ·
  obtain ⟨vk, vs, vt, ve, vb, va⟩ := vals_c59 o h0 h1
  have hne : ∀ c : Int, c < 59 ∨ 62 < c → (o == c) = false := fun c (h : c < 59 ∨ 62 < c) => beqF (by omega)
  rw [vk]; clear vk vs vt ve vb
  go_enter Tryz.func60, Tryz.ntmps60
  go_wp2_with (go_at_call 106; refine (takes_any _ _).mono ?_; rintro e w' ⟨rfl, rfl⟩)
  all_goals
   go_ret
   exact ⟨rfl, rfl⟩
 ·
  obtain ⟨vk, vs, vt, ve, vb, va⟩ := vals_c63 o h0 h1
  have hne : ∀ c : Int, c < 63 ∨ 63 < c → (o == c) = false := fun c (h : c < 63 ∨ 63 < c) => beqF (by omega)
  obtain rfl : o = 63 := by omega
  clear hne h0 h1
  rw [vk]; clear vk vs vt ve vb
  go_enter Tryz.func60, Tryz.ntmps60
  go_wp2_with (go_at_call 106; refine (takes_any _ _).mono ?_; rintro e w' ⟨rfl, rfl⟩)
  all_goals
   go_ret
   exact ⟨rfl, rfl⟩
 ·
  obtain ⟨vk, vs, vt, ve, vb, va⟩ := vals_c64 o h0 h1
  have hne : ∀ c : Int, c < 64 ∨ 65 < c → (o == c) = false := fun c (h : c < 64 ∨ 65 < c) => beqF (by omega)
  rw [vk]; clear vk vs vt ve vb
  go_enter Tryz.func60, Tryz.ntmps60
  go_wp2_with (go_at_call 106; refine (takes_any _ _).mono ?_; rintro e w' ⟨rfl, rfl⟩)
  all_goals
   go_ret
   exact ⟨rfl, rfl⟩
 ·
  obtain ⟨vk, vs, vt, ve, vb, va⟩ := vals_c66 o h0 h1
  have hne : ∀ c : Int, c < 66 ∨ 66 < c → (o == c) = false := fun c (h : c < 66 ∨ 66 < c) => beqF (by omega)
  obtain rfl : o = 66 := by omega
  clear hne h0 h1
  rw [vk]; clear vk vs vt ve vb
  go_enter Tryz.func60, Tryz.ntmps60
  go_wp2_with (go_at_call 106; refine (takes_any _ _).mono ?_; rintro e w' ⟨rfl, rfl⟩)
  all_goals
   go_ret
   exact ⟨rfl, rfl⟩
 ·
  obtain ⟨vk, vs, vt, ve, vb, va⟩ := vals_c67 o h0 h1
  have hne : ∀ c : Int, c < 67 ∨ 67 < c → (o == c) = false := fun c (h : c < 67 ∨ 67 < c) => beqF (by omega)
  obtain rfl : o = 67 := by omega
  clear hne h0 h1
  rw [vk]; clear vk vs vt ve vb
  go_enter Tryz.func60, Tryz.ntmps60
  go_wp2_with (go_at_call 106; refine (takes_any _ _).mono ?_; rintro e w' ⟨rfl, rfl⟩)
  all_goals
   go_ret
   exact ⟨rfl, rfl⟩
 ·
  obtain ⟨vk, vs, vt, ve, vb, va⟩ := vals_c68 o h0 h1
  have hne : ∀ c : Int, c < 68 ∨ 68 < c → (o == c) = false := fun c (h : c < 68 ∨ 68 < c) => beqF (by omega)
  obtain rfl : o = 68 := by omega
  clear hne h0 h1
  rw [vk]; clear vk vs vt ve vb
  go_enter Tryz.func60, Tryz.ntmps60
  go_wp2_with (go_at_call 106; refine (takes_any _ _).mono ?_; rintro e w' ⟨rfl, rfl⟩)
  all_goals
   go_ret
   exact ⟨rfl, rfl⟩
 ·
  obtain ⟨vk, vs, vt, ve, vb, va⟩ := vals_c69 o h0 h1
  have hne : ∀ c : Int, c < 69 ∨ 75 < c → (o == c) = false := fun c (h : c < 69 ∨ 75 < c) => beqF (by omega)
  rw [vk]; clear vk vs vt ve vb
  go_enter Tryz.func60, Tryz.ntmps60
  go_wp2_with (go_at_call 106; refine (takes_any _ _).mono ?_; rintro e w' ⟨rfl, rfl⟩)
  all_goals
   go_ret
   exact ⟨rfl, rfl⟩
 ·
  obtain ⟨vk, vs, vt, ve, vb, va⟩ := vals_c76 o h0 h1
  have hne : ∀ c : Int, c < 76 ∨ 77 < c → (o == c) = false := fun c (h : c < 76 ∨ 77 < c) => beqF (by omega)
  rw [vk]; clear vk vs vt ve vb
  go_enter Tryz.func60, Tryz.ntmps60
  go_wp2_with (go_at_call 106; refine (takes_any _ _).mono ?_; rintro e w' ⟨rfl, rfl⟩)
  all_goals
   go_ret
   exact ⟨rfl, rfl⟩
 ·
  obtain ⟨vk, vs, vt, ve, vb, va⟩ := vals_c78 o h0 h1
  have hne : ∀ c : Int, c < 78 ∨ 78 < c → (o == c) = false := fun c (h : c < 78 ∨ 78 < c) => beqF (by omega)
  obtain rfl : o = 78 := by omega
  clear hne h0 h1
  rw [vk]; clear vk vs vt ve vb
  go_enter Tryz.func60, Tryz.ntmps60
  go_wp2_with (go_at_call 106; refine (takes_any _ _).mono ?_; rintro e w' ⟨rfl, rfl⟩)
  all_goals
   go_ret
   exact ⟨rfl, rfl⟩
 ·
  obtain ⟨vk, vs, vt, ve, vb, va⟩ := vals_c79 o h0 h1
  have hne : ∀ c : Int, c < 79 ∨ 80 < c → (o == c) = false := fun c (h : c < 79 ∨ 80 < c) => beqF (by omega)
  rw [vk]; clear vk vs vt ve vb
  go_enter Tryz.func60, Tryz.ntmps60
  go_wp2_with (go_at_call 106; refine (takes_any _ _).mono ?_; rintro e w' ⟨rfl, rfl⟩)
  all_goals
   go_ret
   exact ⟨rfl, rfl⟩
 ·
  obtain ⟨vk, vs, vt, ve, vb, va⟩ := vals_g o (by omega)
  have hne : ∀ c : Int, c ≤ 80 → (o == c) = false := fun c (h : c ≤ 80) => beqF (by omega)
  rw [vk]; clear vk vs vt ve vb
  go_enter Tryz.func60, Tryz.ntmps60
  go_wp2_with (go_at_call 106; refine (takes_any _ _).mono ?_; rintro e w' ⟨rfl, rfl⟩)
  all_goals
   go_ret
   exact ⟨rfl, rfl⟩
theorem is_any (o : Int) (w : World) :
  Calls Tryz.prog 120 #[.int .i64 o] w fun e w' => e = .returned (.bool (inB 0 80 o)) ∧ w = w' := by
 unfold inB
 by_cases h0 : 0 ≤ o
 ·
  by_cases h1 : o ≤ 80
  ·
   go_enter Tryz.func120, Tryz.ntmps120
   go_wp2
   go_ret
   exact ⟨ret_bool (by first | exact decide_eq_decide.2 (by omega) | (simp; omega)), rfl⟩
  ·
   go_enter Tryz.func120, Tryz.ntmps120
   go_wp2
   go_ret
   exact ⟨ret_bool (by first | exact decide_eq_decide.2 (by omega) | (simp; omega)), rfl⟩
 ·
  go_enter Tryz.func120, Tryz.ntmps120
  go_wp2
  go_ret
  exact ⟨ret_bool (by first | exact decide_eq_decide.2 (by omega) | (simp; omega)), rfl⟩
theorem btw_any (o a b : Int) (w : World) :
  Calls Tryz.prog 73 #[.int .i64 o, .int .i64 a, .int .i64 b] w fun e w' => e = .returned (.bool (inB a b o)) ∧ w = w' := by
 unfold inB
 by_cases h0 : a ≤ o
 ·
  by_cases h1 : o ≤ b
  ·
   go_enter Tryz.func73, Tryz.ntmps73
   go_wp2
   go_ret
   exact ⟨ret_bool (by first | exact decide_eq_decide.2 (by omega) | (simp; omega)), rfl⟩
  ·
   go_enter Tryz.func73, Tryz.ntmps73
   go_wp2
   go_ret
   exact ⟨ret_bool (by first | exact decide_eq_decide.2 (by omega) | (simp; omega)), rfl⟩
 ·
  go_enter Tryz.func73, Tryz.ntmps73
  go_wp2
  go_ret
  exact ⟨ret_bool (by first | exact decide_eq_decide.2 (by omega) | (simp; omega)), rfl⟩
theorem size_any (o : Int) (w : World) :
  Calls Tryz.prog 128 #[.int .i64 o] w fun e w' => e = .returned (.int .i64 (sizeV o)) ∧ w = w' := by
 rcases opc_cases o with h1 | ⟨h0, h1⟩ | ⟨h0, h1⟩ | ⟨h0, h1⟩ | ⟨h0, h1⟩ | ⟨h0, h1⟩ | ⟨h0, h1⟩ | ⟨h0, h1⟩ | ⟨h0, h1⟩ | ⟨h0, h1⟩ | ⟨h0, h1⟩ | ⟨h0, h1⟩ | ⟨h0, h1⟩ | ⟨h0, h1⟩ | ⟨h0, h1⟩ | ⟨h0, h1⟩ | ⟨h0, h1⟩ | ⟨h0, h1⟩ | ⟨h0, h1⟩ | ⟨h0, h1⟩ | ⟨h0, h1⟩ | ⟨h0, h1⟩ | h0
 ·
  obtain ⟨vk, vs, vt, ve, vb, va⟩ := vals_l o (by omega)
  have hne : ∀ c : Int, 0 ≤ c → (o == c) = false := fun c (h : 0 ≤ c) => beqF (by omega)
  rw [vs]; clear vs vt ve vb va
  go_enter Tryz.func128, Tryz.ntmps128
  go_wp2_with (go_at_call 60; refine (kind_any _ _).mono ?_; rintro e w' ⟨rfl, rfl⟩)
  all_goals
   go_ret
   exact ⟨rfl, rfl⟩
 ·
  obtain ⟨vk, vs, vt, ve, vb, va⟩ := vals_c0 o h0 h1
  have hne : ∀ c : Int, c < 0 ∨ 1 < c → (o == c) = false := fun c (h : c < 0 ∨ 1 < c) => beqF (by omega)
  rw [vs]; clear vs vt ve vb va
  go_enter Tryz.func128, Tryz.ntmps128
  go_wp2_with (go_at_call 60; refine (kind_any _ _).mono ?_; rintro e w' ⟨rfl, rfl⟩)
  all_goals
   go_ret
   exact ⟨rfl, rfl⟩
 ·
  obtain ⟨vk, vs, vt, ve, vb, va⟩ := vals_c2 o h0 h1
  have hne : ∀ c : Int, c < 2 ∨ 2 < c → (o == c) = false := fun c (h : c < 2 ∨ 2 < c) => beqF (by omega)
  obtain rfl : o = 2 := by omega
  clear hne h0 h1
  rw [vs]; clear vs vt ve vb va
  go_enter Tryz.func128, Tryz.ntmps128
  go_wp2_with (go_at_call 60; refine (kind_any _ _).mono ?_; rintro e w' ⟨rfl, rfl⟩)
  all_goals
   go_ret
   exact ⟨rfl, rfl⟩
 ·
  obtain ⟨vk, vs, vt, ve, vb, va⟩ := vals_c3 o h0 h1
  have hne : ∀ c : Int, c < 3 ∨ 3 < c → (o == c) = false := fun c (h : c < 3 ∨ 3 < c) => beqF (by omega)
  obtain rfl : o = 3 := by omega
  clear hne h0 h1
  rw [vs]; clear vs vt ve vb va
  go_enter Tryz.func128, Tryz.ntmps128
  go_wp2_with (go_at_call 60; refine (kind_any _ _).mono ?_; rintro e w' ⟨rfl, rfl⟩)
  all_goals
   go_ret
   exact ⟨rfl, rfl⟩
 ·
  obtain ⟨vk, vs, vt, ve, vb, va⟩ := vals_c4 o h0 h1
  have hne : ∀ c : Int, c < 4 ∨ 9 < c → (o == c) = false := fun c (h : c < 4 ∨ 9 < c) => beqF (by omega)
  rw [vs]; clear vs vt ve vb va
  go_enter Tryz.func128, Tryz.ntmps128
  go_wp2_with (go_at_call 60; refine (kind_any _ _).mono ?_; rintro e w' ⟨rfl, rfl⟩)
  all_goals
   go_ret
   exact ⟨rfl, rfl⟩
 ·
  obtain ⟨vk, vs, vt, ve, vb, va⟩ := vals_c10 o h0 h1
  have hne : ∀ c : Int, c < 10 ∨ 10 < c → (o == c) = false := fun c (h : c < 10 ∨ 10 < c) => beqF (by omega)
  obtain rfl : o = 10 := by omega
  clear hne h0 h1
  rw [vs]; clear vs vt ve vb va
  go_enter Tryz.func128, Tryz.ntmps128
  go_wp2_with (go_at_call 60; refine (kind_any _ _).mono ?_; rintro e w' ⟨rfl, rfl⟩)
  all_goals
   go_ret
   exact ⟨rfl, rfl⟩
 ·
  obtain ⟨vk, vs, vt, ve, vb, va⟩ := vals_c11 o h0 h1
  have hne : ∀ c : Int, c < 11 ∨ 35 < c → (o == c) = false := fun c (h : c < 11 ∨ 35 < c) => beqF (by omega)
  rw [vs]; clear vs vt ve vb va
  go_enter Tryz.func128, Tryz.ntmps128
  go_wp2_with (go_at_call 60; refine (kind_any _ _).mono ?_; rintro e w' ⟨rfl, rfl⟩)
  all_goals
   go_ret
   exact ⟨rfl, rfl⟩
 ·
  obtain ⟨vk, vs, vt, ve, vb, va⟩ := vals_c36 o h0 h1
  have hne : ∀ c : Int, c < 36 ∨ 51 < c → (o == c) = false := fun c (h : c < 36 ∨ 51 < c) => beqF (by omega)
  rw [vs]; clear vs vt ve vb va
  go_enter Tryz.func128, Tryz.ntmps128
  go_wp2_with (go_at_call 60; refine (kind_any _ _).mono ?_; rintro e w' ⟨rfl, rfl⟩)
  all_goals
   go_ret
   exact ⟨rfl, rfl⟩
 ·
  obtain ⟨vk, vs, vt, ve, vb, va⟩ := vals_c52 o h0 h1
  have hne : ∀ c : Int, c < 52 ∨ 52 < c → (o == c) = false := fun c (h : c < 52 ∨ 52 < c) => beqF (by omega)
  obtain rfl : o = 52 := by omega
  clear hne h0 h1
  rw [vs]; clear vs vt ve vb va
  go_enter Tryz.func128, Tryz.ntmps128
  go_wp2_with (go_at_call 60; refine (kind_any _ _).mono ?_; rintro e w' ⟨rfl, rfl⟩)
  all_goals
   go_ret
   exact ⟨rfl, rfl⟩
 ·
  obtain ⟨vk, vs, vt, ve, vb, va⟩ := vals_c53 o h0 h1
  have hne : ∀ c : Int, c < 53 ∨ 53 < c → (o == c) = false := fun c (h : c < 53 ∨ 53 < c) => beqF (by omega)
  obtain rfl : o = 53 := by omega
  clear hne h0 h1
  rw [vs]; clear vs vt ve vb va
  go_enter Tryz.func128, Tryz.ntmps128
  go_wp2_with (go_at_call 60; refine (kind_any _ _).mono ?_; rintro e w' ⟨rfl, rfl⟩)
  all_goals
   go_ret
   exact ⟨rfl, rfl⟩
 ·
  obtain ⟨vk, vs, vt, ve, vb, va⟩ := vals_c54 o h0 h1
  have hne : ∀ c : Int, c < 54 ∨ 54 < c → (o == c) = false := fun c (h : c < 54 ∨ 54 < c) => beqF (by omega)
  obtain rfl : o = 54 := by omega
  clear hne h0 h1
  rw [vs]; clear vs vt ve vb va
  go_enter Tryz.func128, Tryz.ntmps128
  go_wp2_with (go_at_call 60; refine (kind_any _ _).mono ?_; rintro e w' ⟨rfl, rfl⟩)
  all_goals
   go_ret
   exact ⟨rfl, rfl⟩
 ·
  obtain ⟨vk, vs, vt, ve, vb, va⟩ := vals_c55 o h0 h1
  have hne : ∀ c : Int, c < 55 ∨ 58 < c → (o == c) = false := fun c (h : c < 55 ∨ 58 < c) => beqF (by omega)
  rw [vs]; clear vs vt ve vb va
  go_enter Tryz.func128, Tryz.ntmps128
  go_wp2_with (go_at_call 60; refine (kind_any _ _).mono ?_; rintro e w' ⟨rfl, rfl⟩)
  all_goals
   go_ret
   exact ⟨rfl, rfl⟩
 ·
  obtain ⟨vk, vs, vt, ve, vb, va⟩ := vals_c59 o h0 h1
  have hne : ∀ c : Int, c < 59 ∨ 62 < c → (o == c) = false := fun c (h : c < 59 ∨ 62 < c) => beqF (by omega)
  rw [vs]; clear vs vt ve vb va
  go_enter Tryz.func128, Tryz.ntmps128
  go_wp2_with (go_at_call 60; refine (kind_any _ _).mono ?_; rintro e w' ⟨rfl, rfl⟩)
  all_goals
   go_ret
   exact ⟨rfl, rfl⟩
 ·
  obtain ⟨vk, vs, vt, ve, vb, va⟩ := vals_c63 o h0 h1
  have hne : ∀ c : Int, c < 63 ∨ 63 < c → (o == c) = false := fun c (h : c < 63 ∨ 63 < c) => beqF (by omega)
  obtain rfl : o = 63 := by omega
  clear hne h0 h1
  rw [vs]; clear vs vt ve vb va
  go_enter Tryz.func128, Tryz.ntmps128
  go_wp2_with (go_at_call 60; refine (kind_any _ _).mono ?_; rintro e w' ⟨rfl, rfl⟩)
  all_goals
   go_ret
   exact ⟨rfl, rfl⟩
 ·
  obtain ⟨vk, vs, vt, ve, vb, va⟩ := vals_c64 o h0 h1
  have hne : ∀ c : Int, c < 64 ∨ 65 < c → (o == c) = false := fun c (h : c < 64 ∨ 65 < c) => beqF (by omega)
  rw [vs]; clear vs vt ve vb va
  go_enter Tryz.func128, Tryz.ntmps128
  go_wp2_with (go_at_call 60; refine (kind_any _ _).mono ?_; rintro e w' ⟨rfl, rfl⟩)
  all_goals
   go_ret
   exact ⟨rfl, rfl⟩
 ·
  obtain ⟨vk, vs, vt, ve, vb, va⟩ := vals_c66 o h0 h1
  have hne : ∀ c : Int, c < 66 ∨ 66 < c → (o == c) = false := fun c (h : c < 66 ∨ 66 < c) => beqF (by omega)
  obtain rfl : o = 66 := by omega
  clear hne h0 h1
  rw [vs]; clear vs vt ve vb va
  go_enter Tryz.func128, Tryz.ntmps128
  go_wp2_with (go_at_call 60; refine (kind_any _ _).mono ?_; rintro e w' ⟨rfl, rfl⟩)
  all_goals
   go_ret
   exact ⟨rfl, rfl⟩
 ·
  obtain ⟨vk, vs, vt, ve, vb, va⟩ := vals_c67 o h0 h1
  have hne : ∀ c : Int, c < 67 ∨ 67 < c → (o == c) = false := fun c (h : c < 67 ∨ 67 < c) => beqF (by omega)
  obtain rfl : o = 67 := by omega
  clear hne h0 h1
  rw [vs]; clear vs vt ve vb va
  go_enter Tryz.func128, Tryz.ntmps128
  go_wp2_with (go_at_call 60; refine (kind_any _ _).mono ?_; rintro e w' ⟨rfl, rfl⟩)
  all_goals
   go_ret
   exact ⟨rfl, rfl⟩
 ·
  obtain ⟨vk, vs, vt, ve, vb, va⟩ := vals_c68 o h0 h1
  have hne : ∀ c : Int, c < 68 ∨ 68 < c → (o == c) = false := fun c (h : c < 68 ∨ 68 < c) => beqF (by omega)
  obtain rfl : o = 68 := by omega
  clear hne h0 h1
  rw [vs]; clear vs vt ve vb va
  go_enter Tryz.func128, Tryz.ntmps128
  go_wp2_with (go_at_call 60; refine (kind_any _ _).mono ?_; rintro e w' ⟨rfl, rfl⟩)
  all_goals
   go_ret
   exact ⟨rfl, rfl⟩
 ·
  obtain ⟨vk, vs, vt, ve, vb, va⟩ := vals_c69 o h0 h1
  have hne : ∀ c : Int, c < 69 ∨ 75 < c → (o == c) = false := fun c (h : c < 69 ∨ 75 < c) => beqF (by omega)
  rw [vs]; clear vs vt ve vb va
  go_enter Tryz.func128, Tryz.ntmps128
  go_wp2_with (go_at_call 60; refine (kind_any _ _).mono ?_; rintro e w' ⟨rfl, rfl⟩)
  all_goals
   go_ret
   exact ⟨rfl, rfl⟩
 ·
  obtain ⟨vk, vs, vt, ve, vb, va⟩ := vals_c76 o h0 h1
  have hne : ∀ c : Int, c < 76 ∨ 77 < c → (o == c) = false := fun c (h : c < 76 ∨ 77 < c) => beqF (by omega)
  rw [vs]; clear vs vt ve vb va
  go_enter Tryz.func128, Tryz.ntmps128
  go_wp2_with (go_at_call 60; refine (kind_any _ _).mono ?_; rintro e w' ⟨rfl, rfl⟩)
  all_goals
   go_ret
   exact ⟨rfl, rfl⟩
 ·
  obtain ⟨vk, vs, vt, ve, vb, va⟩ := vals_c78 o h0 h1
  have hne : ∀ c : Int, c < 78 ∨ 78 < c → (o == c) = false := fun c (h : c < 78 ∨ 78 < c) => beqF (by omega)
  obtain rfl : o = 78 := by omega
  clear hne h0 h1
  rw [vs]; clear vs vt ve vb va
  go_enter Tryz.func128, Tryz.ntmps128
  go_wp2_with (go_at_call 60; refine (kind_any _ _).mono ?_; rintro e w' ⟨rfl, rfl⟩)
  all_goals
   go_ret
   exact ⟨rfl, rfl⟩
 ·
  obtain ⟨vk, vs, vt, ve, vb, va⟩ := vals_c79 o h0 h1
  have hne : ∀ c : Int, c < 79 ∨ 80 < c → (o == c) = false := fun c (h : c < 79 ∨ 80 < c) => beqF (by omega)
  rw [vs]; clear vs vt ve vb va
  go_enter Tryz.func128, Tryz.ntmps128
  go_wp2_with (go_at_call 60; refine (kind_any _ _).mono ?_; rintro e w' ⟨rfl, rfl⟩)
  all_goals
   go_ret
   exact ⟨rfl, rfl⟩
 ·
  obtain ⟨vk, vs, vt, ve, vb, va⟩ := vals_g o (by omega)
  have hne : ∀ c : Int, c ≤ 80 → (o == c) = false := fun c (h : c ≤ 80) => beqF (by omega)
  rw [vs]; clear vs vt ve vb va
  go_enter Tryz.func128, Tryz.ntmps128
  go_wp2_with (go_at_call 60; refine (kind_any _ _).mono ?_; rintro e w' ⟨rfl, rfl⟩)
  all_goals
   go_ret
   exact ⟨rfl, rfl⟩
theorem term_any (o : Int) (w : World) :
  Calls Tryz.prog 25 #[.int .i64 o] w fun e w' => e = .returned (.bool (termB o)) ∧ w = w' := by
 rcases opc_cases o with h1 | ⟨h0, h1⟩ | ⟨h0, h1⟩ | ⟨h0, h1⟩ | ⟨h0, h1⟩ | ⟨h0, h1⟩ | ⟨h0, h1⟩ | ⟨h0, h1⟩ | ⟨h0, h1⟩ | ⟨h0, h1⟩ | ⟨h0, h1⟩ | ⟨h0, h1⟩ | ⟨h0, h1⟩ | ⟨h0, h1⟩ | ⟨h0, h1⟩ | ⟨h0, h1⟩ | ⟨h0, h1⟩ | ⟨h0, h1⟩ | ⟨h0, h1⟩ | ⟨h0, h1⟩ | ⟨h0, h1⟩ | ⟨h0, h1⟩ | h0
 ·
  obtain ⟨vk, vs, vt, ve, vb, va⟩ := vals_l o (by omega)
  have hne : ∀ c : Int, 0 ≤ c → (o == c) = false := fun c (h : 0 ≤ c) => beqF (by omega)
  rw [ve]; clear vk vs vt ve vb va
  go_enter Tryz.func25, Tryz.ntmps25
  go_wp2
  all_goals
   go_ret
   exact ⟨rfl, rfl⟩
 ·
  obtain ⟨vk, vs, vt, ve, vb, va⟩ := vals_c0 o h0 h1
  have hne : ∀ c : Int, c < 0 ∨ 1 < c → (o == c) = false := fun c (h : c < 0 ∨ 1 < c) => beqF (by omega)
  rw [ve]; clear vk vs vt ve vb va
  go_enter Tryz.func25, Tryz.ntmps25
  go_wp2
  all_goals
   go_ret
   exact ⟨rfl, rfl⟩
 ·
  obtain ⟨vk, vs, vt, ve, vb, va⟩ := vals_c2 o h0 h1
  have hne : ∀ c : Int, c < 2 ∨ 2 < c → (o == c) = false := fun c (h : c < 2 ∨ 2 < c) => beqF (by omega)
  obtain rfl : o = 2 := by omega
  clear hne h0 h1
  rw [ve]; clear vk vs vt ve vb va
  go_enter Tryz.func25, Tryz.ntmps25
  go_wp2
  all_goals
   go_ret
   exact ⟨rfl, rfl⟩
 ·
  obtain ⟨vk, vs, vt, ve, vb, va⟩ := vals_c3 o h0 h1
  have hne : ∀ c : Int, c < 3 ∨ 3 < c → (o == c) = false := fun c (h : c < 3 ∨ 3 < c) => beqF (by omega)
  obtain rfl : o = 3 := by omega
  clear hne h0 h1
  rw [ve]; clear vk vs vt ve vb va
  go_enter Tryz.func25, Tryz.ntmps25
  go_wp2
  all_goals
   go_ret
   exact ⟨rfl, rfl⟩
 ·
  obtain ⟨vk, vs, vt, ve, vb, va⟩ := vals_c4 o h0 h1
  have hne : ∀ c : Int, c < 4 ∨ 9 < c → (o == c) = false := fun c (h : c < 4 ∨ 9 < c) => beqF (by omega)
  rw [ve]; clear vk vs vt ve vb va
  go_enter Tryz.func25, Tryz.ntmps25
  go_wp2
  all_goals
   go_ret
   exact ⟨rfl, rfl⟩
 ·
  obtain ⟨vk, vs, vt, ve, vb, va⟩ := vals_c10 o h0 h1
  have hne : ∀ c : Int, c < 10 ∨ 10 < c → (o == c) = false := fun c (h : c < 10 ∨ 10 < c) => beqF (by omega)
  obtain rfl : o = 10 := by omega
  clear hne h0 h1
  rw [ve]; clear vk vs vt ve vb va
  go_enter Tryz.func25, Tryz.ntmps25
  go_wp2
  all_goals
   go_ret
   exact ⟨rfl, rfl⟩
 ·
  obtain ⟨vk, vs, vt, ve, vb, va⟩ := vals_c11 o h0 h1
  have hne : ∀ c : Int, c < 11 ∨ 35 < c → (o == c) = false := fun c (h : c < 11 ∨ 35 < c) => beqF (by omega)
  rw [ve]; clear vk vs vt ve vb va
  go_enter Tryz.func25, Tryz.ntmps25
  go_wp2
  all_goals
   go_ret
   exact ⟨rfl, rfl⟩
 ·
  obtain ⟨vk, vs, vt, ve, vb, va⟩ := vals_c36 o h0 h1
  have hne : ∀ c : Int, c < 36 ∨ 51 < c → (o == c) = false := fun c (h : c < 36 ∨ 51 < c) => beqF (by omega)
  rw [ve]; clear vk vs vt ve vb va
  go_enter Tryz.func25, Tryz.ntmps25
  go_wp2
  all_goals
   go_ret
   exact ⟨rfl, rfl⟩
 ·
  obtain ⟨vk, vs, vt, ve, vb, va⟩ := vals_c52 o h0 h1
  have hne : ∀ c : Int, c < 52 ∨ 52 < c → (o == c) = false := fun c (h : c < 52 ∨ 52 < c) => beqF (by omega)
  obtain rfl : o = 52 := by omega
  clear hne h0 h1
  rw [ve]; clear vk vs vt ve vb va
  go_enter Tryz.func25, Tryz.ntmps25
  go_wp2
  all_goals
   go_ret
   exact ⟨rfl, rfl⟩
 ·
  obtain ⟨vk, vs, vt, ve, vb, va⟩ := vals_c53 o h0 h1
  have hne : ∀ c : Int, c < 53 ∨ 53 < c → (o == c) = false := fun c (h : c < 53 ∨ 53 < c) => beqF (by omega)
  obtain rfl : o = 53 := by omega
  clear hne h0 h1
  rw [ve]; clear vk vs vt ve vb va
  go_enter Tryz.func25, Tryz.ntmps25
  go_wp2
  all_goals
   go_ret
   exact ⟨rfl, rfl⟩
 ·
  obtain ⟨vk, vs, vt, ve, vb, va⟩ := vals_c54 o h0 h1
  have hne : ∀ c : Int, c < 54 ∨ 54 < c → (o == c) = false := fun c (h : c < 54 ∨ 54 < c) => beqF (by omega)
  obtain rfl : o = 54 := by omega
  clear hne h0 h1
  rw [ve]; clear vk vs vt ve vb va
  go_enter Tryz.func25, Tryz.ntmps25
  go_wp2
  all_goals
   go_ret
   exact ⟨rfl, rfl⟩
 ·
  obtain ⟨vk, vs, vt, ve, vb, va⟩ := vals_c55 o h0 h1
  have hne : ∀ c : Int, c < 55 ∨ 58 < c → (o == c) = false := fun c (h : c < 55 ∨ 58 < c) => beqF (by omega)
  rw [ve]; clear vk vs vt ve vb va
  go_enter Tryz.func25, Tryz.ntmps25
  go_wp2
  all_goals
   go_ret
   exact ⟨rfl, rfl⟩
 ·
  obtain ⟨vk, vs, vt, ve, vb, va⟩ := vals_c59 o h0 h1
  have hne : ∀ c : Int, c < 59 ∨ 62 < c → (o == c) = false := fun c (h : c < 59 ∨ 62 < c) => beqF (by omega)
  rw [ve]; clear vk vs vt ve vb va
  go_enter Tryz.func25, Tryz.ntmps25
  go_wp2
  all_goals
   go_ret
   exact ⟨rfl, rfl⟩
 ·
  obtain ⟨vk, vs, vt, ve, vb, va⟩ := vals_c63 o h0 h1
  have hne : ∀ c : Int, c < 63 ∨ 63 < c → (o == c) = false := fun c (h : c < 63 ∨ 63 < c) => beqF (by omega)
  obtain rfl : o = 63 := by omega
  clear hne h0 h1
  rw [ve]; clear vk vs vt ve vb va
  go_enter Tryz.func25, Tryz.ntmps25
  go_wp2
  all_goals
   go_ret
   exact ⟨rfl, rfl⟩
 ·
  obtain ⟨vk, vs, vt, ve, vb, va⟩ := vals_c64 o h0 h1
  have hne : ∀ c : Int, c < 64 ∨ 65 < c → (o == c) = false := fun c (h : c < 64 ∨ 65 < c) => beqF (by omega)
  rw [ve]; clear vk vs vt ve vb va
  go_enter Tryz.func25, Tryz.ntmps25
  go_wp2
  all_goals
   go_ret
   exact ⟨rfl, rfl⟩
 ·
  obtain ⟨vk, vs, vt, ve, vb, va⟩ := vals_c66 o h0 h1
  have hne : ∀ c : Int, c < 66 ∨ 66 < c → (o == c) = false := fun c (h : c < 66 ∨ 66 < c) => beqF (by omega)
  obtain rfl : o = 66 := by omega
  clear hne h0 h1
  rw [ve]; clear vk vs vt ve vb va
  go_enter Tryz.func25, Tryz.ntmps25
  go_wp2
  all_goals
   go_ret
   exact ⟨rfl, rfl⟩
 ·
  obtain ⟨vk, vs, vt, ve, vb, va⟩ := vals_c67 o h0 h1
  have hne : ∀ c : Int, c < 67 ∨ 67 < c → (o == c) = false := fun c (h : c < 67 ∨ 67 < c) => beqF (by omega)
  obtain rfl : o = 67 := by omega
  clear hne h0 h1
  rw [ve]; clear vk vs vt ve vb va
  go_enter Tryz.func25, Tryz.ntmps25
  go_wp2
  all_goals
   go_ret
   exact ⟨rfl, rfl⟩
 ·
  obtain ⟨vk, vs, vt, ve, vb, va⟩ := vals_c68 o h0 h1
  have hne : ∀ c : Int, c < 68 ∨ 68 < c → (o == c) = false := fun c (h : c < 68 ∨ 68 < c) => beqF (by omega)
  obtain rfl : o = 68 := by omega
  clear hne h0 h1
  rw [ve]; clear vk vs vt ve vb va
  go_enter Tryz.func25, Tryz.ntmps25
  go_wp2
  all_goals
   go_ret
   exact ⟨rfl, rfl⟩
 ·
  obtain ⟨vk, vs, vt, ve, vb, va⟩ := vals_c69 o h0 h1
  have hne : ∀ c : Int, c < 69 ∨ 75 < c → (o == c) = false := fun c (h : c < 69 ∨ 75 < c) => beqF (by omega)
  rw [ve]; clear vk vs vt ve vb va
  go_enter Tryz.func25, Tryz.ntmps25
  go_wp2
  all_goals
   go_ret
   exact ⟨rfl, rfl⟩
 ·
  obtain ⟨vk, vs, vt, ve, vb, va⟩ := vals_c76 o h0 h1
  have hne : ∀ c : Int, c < 76 ∨ 77 < c → (o == c) = false := fun c (h : c < 76 ∨ 77 < c) => beqF (by omega)
  rw [ve]; clear vk vs vt ve vb va
  go_enter Tryz.func25, Tryz.ntmps25
  go_wp2
  all_goals
   go_ret
   exact ⟨rfl, rfl⟩
 ·
  obtain ⟨vk, vs, vt, ve, vb, va⟩ := vals_c78 o h0 h1
  have hne : ∀ c : Int, c < 78 ∨ 78 < c → (o == c) = false := fun c (h : c < 78 ∨ 78 < c) => beqF (by omega)
  obtain rfl : o = 78 := by omega
  clear hne h0 h1
  rw [ve]; clear vk vs vt ve vb va
  go_enter Tryz.func25, Tryz.ntmps25
  go_wp2
  all_goals
   go_ret
   exact ⟨rfl, rfl⟩
 ·
  obtain ⟨vk, vs, vt, ve, vb, va⟩ := vals_c79 o h0 h1
  have hne : ∀ c : Int, c < 79 ∨ 80 < c → (o == c) = false := fun c (h : c < 79 ∨ 80 < c) => beqF (by omega)
  rw [ve]; clear vk vs vt ve vb va
  go_enter Tryz.func25, Tryz.ntmps25
  go_wp2
  all_goals
   go_ret
   exact ⟨rfl, rfl⟩
 ·
  obtain ⟨vk, vs, vt, ve, vb, va⟩ := vals_g o (by omega)
  have hne : ∀ c : Int, c ≤ 80 → (o == c) = false := fun c (h : c ≤ 80) => beqF (by omega)
  rw [ve]; clear vk vs vt ve vb va
  go_enter Tryz.func25, Tryz.ntmps25
  go_wp2
  all_goals
   go_ret
   exact ⟨rfl, rfl⟩
theorem br_any (o : Int) (w : World) :
  Calls Tryz.prog 56 #[.int .i64 o] w fun e w' => e = .returned (.bool (brB o)) ∧ w = w' := by
 rcases opc_cases o with h1 | ⟨h0, h1⟩ | ⟨h0, h1⟩ | ⟨h0, h1⟩ | ⟨h0, h1⟩ | ⟨h0, h1⟩ | ⟨h0, h1⟩ | ⟨h0, h1⟩ | ⟨h0, h1⟩ | ⟨h0, h1⟩ | ⟨h0, h1⟩ | ⟨h0, h1⟩ | ⟨h0, h1⟩ | ⟨h0, h1⟩ | ⟨h0, h1⟩ | ⟨h0, h1⟩ | ⟨h0, h1⟩ | ⟨h0, h1⟩ | ⟨h0, h1⟩ | ⟨h0, h1⟩ | ⟨h0, h1⟩ | ⟨h0, h1⟩ | h0
 ·
  obtain ⟨vk, vs, vt, ve, vb, va⟩ := vals_l o (by omega)
  have hne : ∀ c : Int, 0 ≤ c → (o == c) = false := fun c (h : 0 ≤ c) => beqF (by omega)
  rw [vb]; clear vs vt ve vb va
  go_enter Tryz.func56, Tryz.ntmps56
  go_wp2_with (go_at_call 60; refine (kind_any _ _).mono ?_; rintro e w' ⟨rfl, rfl⟩)
  all_goals
   go_ret
   exact ⟨rfl, rfl⟩
 ·
  obtain ⟨vk, vs, vt, ve, vb, va⟩ := vals_c0 o h0 h1
  have hne : ∀ c : Int, c < 0 ∨ 1 < c → (o == c) = false := fun c (h : c < 0 ∨ 1 < c) => beqF (by omega)
  rw [vb]; clear vs vt ve vb va
  go_enter Tryz.func56, Tryz.ntmps56
  go_wp2_with (go_at_call 60; refine (kind_any _ _).mono ?_; rintro e w' ⟨rfl, rfl⟩)
  all_goals
   go_ret
   exact ⟨rfl, rfl⟩
 ·
  obtain ⟨vk, vs, vt, ve, vb, va⟩ := vals_c2 o h0 h1
  have hne : ∀ c : Int, c < 2 ∨ 2 < c → (o == c) = false := fun c (h : c < 2 ∨ 2 < c) => beqF (by omega)
  obtain rfl : o = 2 := by omega
  clear hne h0 h1
  rw [vb]; clear vs vt ve vb va
  go_enter Tryz.func56, Tryz.ntmps56
  go_wp2_with (go_at_call 60; refine (kind_any _ _).mono ?_; rintro e w' ⟨rfl, rfl⟩)
  all_goals
   go_ret
   exact ⟨rfl, rfl⟩
 ·
  obtain ⟨vk, vs, vt, ve, vb, va⟩ := vals_c3 o h0 h1
  have hne : ∀ c : Int, c < 3 ∨ 3 < c → (o == c) = false := fun c (h : c < 3 ∨ 3 < c) => beqF (by omega)
  obtain rfl : o = 3 := by omega
  clear hne h0 h1
  rw [vb]; clear vs vt ve vb va
  go_enter Tryz.func56, Tryz.ntmps56
  go_wp2_with (go_at_call 60; refine (kind_any _ _).mono ?_; rintro e w' ⟨rfl, rfl⟩)
  all_goals
   go_ret
   exact ⟨rfl, rfl⟩
 ·
  obtain ⟨vk, vs, vt, ve, vb, va⟩ := vals_c4 o h0 h1
  have hne : ∀ c : Int, c < 4 ∨ 9 < c → (o == c) = false := fun c (h : c < 4 ∨ 9 < c) => beqF (by omega)
  rw [vb]; clear vs vt ve vb va
  go_enter Tryz.func56, Tryz.ntmps56
  go_wp2_with (go_at_call 60; refine (kind_any _ _).mono ?_; rintro e w' ⟨rfl, rfl⟩)
  all_goals
   go_ret
   exact ⟨rfl, rfl⟩
 ·
  obtain ⟨vk, vs, vt, ve, vb, va⟩ := vals_c10 o h0 h1
  have hne : ∀ c : Int, c < 10 ∨ 10 < c → (o == c) = false := fun c (h : c < 10 ∨ 10 < c) => beqF (by omega)
  obtain rfl : o = 10 := by omega
  clear hne h0 h1
  rw [vb]; clear vs vt ve vb va
  go_enter Tryz.func56, Tryz.ntmps56
  go_wp2_with (go_at_call 60; refine (kind_any _ _).mono ?_; rintro e w' ⟨rfl, rfl⟩)
  all_goals
   go_ret
   exact ⟨rfl, rfl⟩
 ·
  obtain ⟨vk, vs, vt, ve, vb, va⟩ := vals_c11 o h0 h1
  have hne : ∀ c : Int, c < 11 ∨ 35 < c → (o == c) = false := fun c (h : c < 11 ∨ 35 < c) => beqF (by omega)
  rw [vb]; clear vs vt ve vb va
  go_enter Tryz.func56, Tryz.ntmps56
  go_wp2_with (go_at_call 60; refine (kind_any _ _).mono ?_; rintro e w' ⟨rfl, rfl⟩)
  all_goals
   go_ret
   exact ⟨rfl, rfl⟩
 ·
  obtain ⟨vk, vs, vt, ve, vb, va⟩ := vals_c36 o h0 h1
  have hne : ∀ c : Int, c < 36 ∨ 51 < c → (o == c) = false := fun c (h : c < 36 ∨ 51 < c) => beqF (by omega)
  rw [vb]; clear vs vt ve vb va
  go_enter Tryz.func56, Tryz.ntmps56
  go_wp2_with (go_at_call 60; refine (kind_any _ _).mono ?_; rintro e w' ⟨rfl, rfl⟩)
  all_goals
   go_ret
   exact ⟨rfl, rfl⟩
 ·
  obtain ⟨vk, vs, vt, ve, vb, va⟩ := vals_c52 o h0 h1
  have hne : ∀ c : Int, c < 52 ∨ 52 < c → (o == c) = false := fun c (h : c < 52 ∨ 52 < c) => beqF (by omega)
  obtain rfl : o = 52 := by omega
  clear hne h0 h1
  rw [vb]; clear vs vt ve vb va
  go_enter Tryz.func56, Tryz.ntmps56
  go_wp2_with (go_at_call 60; refine (kind_any _ _).mono ?_; rintro e w' ⟨rfl, rfl⟩)
  all_goals
   go_ret
   exact ⟨rfl, rfl⟩
 ·
  obtain ⟨vk, vs, vt, ve, vb, va⟩ := vals_c53 o h0 h1
  have hne : ∀ c : Int, c < 53 ∨ 53 < c → (o == c) = false := fun c (h : c < 53 ∨ 53 < c) => beqF (by omega)
  obtain rfl : o = 53 := by omega
  clear hne h0 h1
  rw [vb]; clear vs vt ve vb va
  go_enter Tryz.func56, Tryz.ntmps56
  go_wp2_with (go_at_call 60; refine (kind_any _ _).mono ?_; rintro e w' ⟨rfl, rfl⟩)
  all_goals
   go_ret
   exact ⟨rfl, rfl⟩
 ·
  obtain ⟨vk, vs, vt, ve, vb, va⟩ := vals_c54 o h0 h1
  have hne : ∀ c : Int, c < 54 ∨ 54 < c → (o == c) = false := fun c (h : c < 54 ∨ 54 < c) => beqF (by omega)
  obtain rfl : o = 54 := by omega
  clear hne h0 h1
  rw [vb]; clear vs vt ve vb va
  go_enter Tryz.func56, Tryz.ntmps56
  go_wp2_with (go_at_call 60; refine (kind_any _ _).mono ?_; rintro e w' ⟨rfl, rfl⟩)
  all_goals
   go_ret
   exact ⟨rfl, rfl⟩
 ·
  obtain ⟨vk, vs, vt, ve, vb, va⟩ := vals_c55 o h0 h1
  have hne : ∀ c : Int, c < 55 ∨ 58 < c → (o == c) = false := fun c (h : c < 55 ∨ 58 < c) => beqF (by omega)
  rw [vb]; clear vs vt ve vb va
  go_enter Tryz.func56, Tryz.ntmps56
  go_wp2_with (go_at_call 60; refine (kind_any _ _).mono ?_; rintro e w' ⟨rfl, rfl⟩)
  all_goals
   go_ret
   exact ⟨rfl, rfl⟩
 ·
  obtain ⟨vk, vs, vt, ve, vb, va⟩ := vals_c59 o h0 h1
  have hne : ∀ c : Int, c < 59 ∨ 62 < c → (o == c) = false := fun c (h : c < 59 ∨ 62 < c) => beqF (by omega)
  rw [vb]; clear vs vt ve vb va
  go_enter Tryz.func56, Tryz.ntmps56
  go_wp2_with (go_at_call 60; refine (kind_any _ _).mono ?_; rintro e w' ⟨rfl, rfl⟩)
  all_goals
   go_ret
   exact ⟨rfl, rfl⟩
 ·
  obtain ⟨vk, vs, vt, ve, vb, va⟩ := vals_c63 o h0 h1
  have hne : ∀ c : Int, c < 63 ∨ 63 < c → (o == c) = false := fun c (h : c < 63 ∨ 63 < c) => beqF (by omega)
  obtain rfl : o = 63 := by omega
  clear hne h0 h1
  rw [vb]; clear vs vt ve vb va
  go_enter Tryz.func56, Tryz.ntmps56
  go_wp2_with (go_at_call 60; refine (kind_any _ _).mono ?_; rintro e w' ⟨rfl, rfl⟩)
  all_goals
   go_ret
   exact ⟨rfl, rfl⟩
 ·
  obtain ⟨vk, vs, vt, ve, vb, va⟩ := vals_c64 o h0 h1
  have hne : ∀ c : Int, c < 64 ∨ 65 < c → (o == c) = false := fun c (h : c < 64 ∨ 65 < c) => beqF (by omega)
  rw [vb]; clear vs vt ve vb va
  go_enter Tryz.func56, Tryz.ntmps56
  go_wp2_with (go_at_call 60; refine (kind_any _ _).mono ?_; rintro e w' ⟨rfl, rfl⟩)
  all_goals
   go_ret
   exact ⟨rfl, rfl⟩
 ·
  obtain ⟨vk, vs, vt, ve, vb, va⟩ := vals_c66 o h0 h1
  have hne : ∀ c : Int, c < 66 ∨ 66 < c → (o == c) = false := fun c (h : c < 66 ∨ 66 < c) => beqF (by omega)
  obtain rfl : o = 66 := by omega
  clear hne h0 h1
  rw [vb]; clear vs vt ve vb va
  go_enter Tryz.func56, Tryz.ntmps56
  go_wp2_with (go_at_call 60; refine (kind_any _ _).mono ?_; rintro e w' ⟨rfl, rfl⟩)
  all_goals
   go_ret
   exact ⟨rfl, rfl⟩
 ·
  obtain ⟨vk, vs, vt, ve, vb, va⟩ := vals_c67 o h0 h1
  have hne : ∀ c : Int, c < 67 ∨ 67 < c → (o == c) = false := fun c (h : c < 67 ∨ 67 < c) => beqF (by omega)
  obtain rfl : o = 67 := by omega
  clear hne h0 h1
  rw [vb]; clear vs vt ve vb va
  go_enter Tryz.func56, Tryz.ntmps56
  go_wp2_with (go_at_call 60; refine (kind_any _ _).mono ?_; rintro e w' ⟨rfl, rfl⟩)
  all_goals
   go_ret
   exact ⟨rfl, rfl⟩
 ·
  obtain ⟨vk, vs, vt, ve, vb, va⟩ := vals_c68 o h0 h1
  have hne : ∀ c : Int, c < 68 ∨ 68 < c → (o == c) = false := fun c (h : c < 68 ∨ 68 < c) => beqF (by omega)
  obtain rfl : o = 68 := by omega
  clear hne h0 h1
  rw [vb]; clear vs vt ve vb va
  go_enter Tryz.func56, Tryz.ntmps56
  go_wp2_with (go_at_call 60; refine (kind_any _ _).mono ?_; rintro e w' ⟨rfl, rfl⟩)
  all_goals
   go_ret
   exact ⟨rfl, rfl⟩
 ·
  obtain ⟨vk, vs, vt, ve, vb, va⟩ := vals_c69 o h0 h1
  have hne : ∀ c : Int, c < 69 ∨ 75 < c → (o == c) = false := fun c (h : c < 69 ∨ 75 < c) => beqF (by omega)
  rw [vb]; clear vs vt ve vb va
  go_enter Tryz.func56, Tryz.ntmps56
  go_wp2_with (go_at_call 60; refine (kind_any _ _).mono ?_; rintro e w' ⟨rfl, rfl⟩)
  all_goals
   go_ret
   exact ⟨rfl, rfl⟩
 ·
  obtain ⟨vk, vs, vt, ve, vb, va⟩ := vals_c76 o h0 h1
  have hne : ∀ c : Int, c < 76 ∨ 77 < c → (o == c) = false := fun c (h : c < 76 ∨ 77 < c) => beqF (by omega)
  rw [vb]; clear vs vt ve vb va
  go_enter Tryz.func56, Tryz.ntmps56
  go_wp2_with (go_at_call 60; refine (kind_any _ _).mono ?_; rintro e w' ⟨rfl, rfl⟩)
  all_goals
   go_ret
   exact ⟨rfl, rfl⟩
 ·
  obtain ⟨vk, vs, vt, ve, vb, va⟩ := vals_c78 o h0 h1
  have hne : ∀ c : Int, c < 78 ∨ 78 < c → (o == c) = false := fun c (h : c < 78 ∨ 78 < c) => beqF (by omega)
  obtain rfl : o = 78 := by omega
  clear hne h0 h1
  rw [vb]; clear vs vt ve vb va
  go_enter Tryz.func56, Tryz.ntmps56
  go_wp2_with (go_at_call 60; refine (kind_any _ _).mono ?_; rintro e w' ⟨rfl, rfl⟩)
  all_goals
   go_ret
   exact ⟨rfl, rfl⟩
 ·
  obtain ⟨vk, vs, vt, ve, vb, va⟩ := vals_c79 o h0 h1
  have hne : ∀ c : Int, c < 79 ∨ 80 < c → (o == c) = false := fun c (h : c < 79 ∨ 80 < c) => beqF (by omega)
  rw [vb]; clear vs vt ve vb va
  go_enter Tryz.func56, Tryz.ntmps56
  go_wp2_with (go_at_call 60; refine (kind_any _ _).mono ?_; rintro e w' ⟨rfl, rfl⟩)
  all_goals
   go_ret
   exact ⟨rfl, rfl⟩
 ·
  obtain ⟨vk, vs, vt, ve, vb, va⟩ := vals_g o (by omega)
  have hne : ∀ c : Int, c ≤ 80 → (o == c) = false := fun c (h : c ≤ 80) => beqF (by omega)
  rw [vb]; clear vs vt ve vb va
  go_enter Tryz.func56, Tryz.ntmps56
  go_wp2_with (go_at_call 60; refine (kind_any _ _).mono ?_; rintro e w' ⟨rfl, rfl⟩)
  all_goals
   go_ret
   exact ⟨rfl, rfl⟩
theorem tags_any (o : Int) (w : World) :
  Calls Tryz.prog 109 #[.int .i64 o] w fun e w' => e = .returned (tagsV w (tagsL o)) ∧ w' = tagsW w (tagsL o) := by
 rcases opc_cases o with h1 | ⟨h0, h1⟩ | ⟨h0, h1⟩ | ⟨h0, h1⟩ | ⟨h0, h1⟩ | ⟨h0, h1⟩ | ⟨h0, h1⟩ | ⟨h0, h1⟩ | ⟨h0, h1⟩ | ⟨h0, h1⟩ | ⟨h0, h1⟩ | ⟨h0, h1⟩ | ⟨h0, h1⟩ | ⟨h0, h1⟩ | ⟨h0, h1⟩ | ⟨h0, h1⟩ | ⟨h0, h1⟩ | ⟨h0, h1⟩ | ⟨h0, h1⟩ | ⟨h0, h1⟩ | ⟨h0, h1⟩ | ⟨h0, h1⟩ | h0
 ·
  obtain ⟨vk, vs, vt, ve, vb, va⟩ := vals_l o (by omega)
  have hne : ∀ c : Int, 0 ≤ c → (o == c) = false := fun c (h : 0 ≤ c) => beqF (by omega)
  rw [vt]; clear vk vs vt ve vb va
  go_enter Tryz.func109, Tryz.ntmps109
  go_wp2
  all_goals
   go_ret
   exact ⟨rfl, rfl⟩
 ·
  obtain ⟨vk, vs, vt, ve, vb, va⟩ := vals_c0 o h0 h1
  have hne : ∀ c : Int, c < 0 ∨ 1 < c → (o == c) = false := fun c (h : c < 0 ∨ 1 < c) => beqF (by omega)
  rw [vt]; clear vk vs vt ve vb va
  go_enter Tryz.func109, Tryz.ntmps109
  go_wp2
  all_goals
   go_ret
   exact ⟨rfl, rfl⟩
 ·
  obtain ⟨vk, vs, vt, ve, vb, va⟩ := vals_c2 o h0 h1
  have hne : ∀ c : Int, c < 2 ∨ 2 < c → (o == c) = false := fun c (h : c < 2 ∨ 2 < c) => beqF (by omega)
  obtain rfl : o = 2 := by omega
  clear hne h0 h1
  rw [vt]; clear vk vs vt ve vb va
  go_enter Tryz.func109, Tryz.ntmps109
  go_wp2
  all_goals
   go_ret
   exact ⟨rfl, rfl⟩
 ·
  obtain ⟨vk, vs, vt, ve, vb, va⟩ := vals_c3 o h0 h1
  have hne : ∀ c : Int, c < 3 ∨ 3 < c → (o == c) = false := fun c (h : c < 3 ∨ 3 < c) => beqF (by omega)
  obtain rfl : o = 3 := by omega
  clear hne h0 h1
  rw [vt]; clear vk vs vt ve vb va
  go_enter Tryz.func109, Tryz.ntmps109
  go_wp2
  all_goals
   go_ret
   exact ⟨rfl, rfl⟩
 ·
  obtain ⟨vk, vs, vt, ve, vb, va⟩ := vals_c4 o h0 h1
  have hne : ∀ c : Int, c < 4 ∨ 9 < c → (o == c) = false := fun c (h : c < 4 ∨ 9 < c) => beqF (by omega)
  rw [vt]; clear vk vs vt ve vb va
  go_enter Tryz.func109, Tryz.ntmps109
  go_wp2
  all_goals
   go_ret
   exact ⟨rfl, rfl⟩
 ·
  obtain ⟨vk, vs, vt, ve, vb, va⟩ := vals_c10 o h0 h1
  have hne : ∀ c : Int, c < 10 ∨ 10 < c → (o == c) = false := fun c (h : c < 10 ∨ 10 < c) => beqF (by omega)
  obtain rfl : o = 10 := by omega
  clear hne h0 h1
  rw [vt]; clear vk vs vt ve vb va
  go_enter Tryz.func109, Tryz.ntmps109
  go_wp2
  all_goals
   go_ret
   exact ⟨rfl, rfl⟩
 ·
  obtain ⟨vk, vs, vt, ve, vb, va⟩ := vals_c11 o h0 h1
  have hne : ∀ c : Int, c < 11 ∨ 35 < c → (o == c) = false := fun c (h : c < 11 ∨ 35 < c) => beqF (by omega)
  rw [vt]; clear vk vs vt ve vb va
  go_enter Tryz.func109, Tryz.ntmps109
  go_wp2
  all_goals
   go_ret
   exact ⟨rfl, rfl⟩
 ·
  obtain ⟨vk, vs, vt, ve, vb, va⟩ := vals_c36 o h0 h1
  have hne : ∀ c : Int, c < 36 ∨ 51 < c → (o == c) = false := fun c (h : c < 36 ∨ 51 < c) => beqF (by omega)
  rw [vt]; clear vk vs vt ve vb va
  go_enter Tryz.func109, Tryz.ntmps109
  go_wp2
  all_goals
   go_ret
   exact ⟨rfl, rfl⟩
 ·
  obtain ⟨vk, vs, vt, ve, vb, va⟩ := vals_c52 o h0 h1
  have hne : ∀ c : Int, c < 52 ∨ 52 < c → (o == c) = false := fun c (h : c < 52 ∨ 52 < c) => beqF (by omega)
  obtain rfl : o = 52 := by omega
  clear hne h0 h1
  rw [vt]; clear vk vs vt ve vb va
  go_enter Tryz.func109, Tryz.ntmps109
  go_wp2
  all_goals
   go_ret
   exact ⟨rfl, rfl⟩
 ·
  obtain ⟨vk, vs, vt, ve, vb, va⟩ := vals_c53 o h0 h1
  have hne : ∀ c : Int, c < 53 ∨ 53 < c → (o == c) = false := fun c (h : c < 53 ∨ 53 < c) => beqF (by omega)
  obtain rfl : o = 53 := by omega
  clear hne h0 h1
  rw [vt]; clear vk vs vt ve vb va
  go_enter Tryz.func109, Tryz.ntmps109
  go_wp2
  all_goals
   go_ret
   exact ⟨rfl, rfl⟩
 ·
  obtain ⟨vk, vs, vt, ve, vb, va⟩ := vals_c54 o h0 h1
  have hne : ∀ c : Int, c < 54 ∨ 54 < c → (o == c) = false := fun c (h : c < 54 ∨ 54 < c) => beqF (by omega)
  obtain rfl : o = 54 := by omega
  clear hne h0 h1
  rw [vt]; clear vk vs vt ve vb va
  go_enter Tryz.func109, Tryz.ntmps109
  go_wp2
  all_goals
   go_ret
   exact ⟨rfl, rfl⟩
 ·
  obtain ⟨vk, vs, vt, ve, vb, va⟩ := vals_c55 o h0 h1
  have hne : ∀ c : Int, c < 55 ∨ 58 < c → (o == c) = false := fun c (h : c < 55 ∨ 58 < c) => beqF (by omega)
  rw [vt]; clear vk vs vt ve vb va
  go_enter Tryz.func109, Tryz.ntmps109
  go_wp2
  all_goals
   go_ret
   exact ⟨rfl, rfl⟩
 ·
  obtain ⟨vk, vs, vt, ve, vb, va⟩ := vals_c59 o h0 h1
  have hne : ∀ c : Int, c < 59 ∨ 62 < c → (o == c) = false := fun c (h : c < 59 ∨ 62 < c) => beqF (by omega)
  rw [vt]; clear vk vs vt ve vb va
  go_enter Tryz.func109, Tryz.ntmps109
  go_wp2
  all_goals
   go_ret
   exact ⟨rfl, rfl⟩
 ·
  obtain ⟨vk, vs, vt, ve, vb, va⟩ := vals_c63 o h0 h1
  have hne : ∀ c : Int, c < 63 ∨ 63 < c → (o == c) = false := fun c (h : c < 63 ∨ 63 < c) => beqF (by omega)
  obtain rfl : o = 63 := by omega
  clear hne h0 h1
  rw [vt]; clear vk vs vt ve vb va
  go_enter Tryz.func109, Tryz.ntmps109
  go_wp2
  all_goals
   go_ret
   exact ⟨rfl, rfl⟩
 ·
  obtain ⟨vk, vs, vt, ve, vb, va⟩ := vals_c64 o h0 h1
  have hne : ∀ c : Int, c < 64 ∨ 65 < c → (o == c) = false := fun c (h : c < 64 ∨ 65 < c) => beqF (by omega)
  rw [vt]; clear vk vs vt ve vb va
  go_enter Tryz.func109, Tryz.ntmps109
  go_wp2
  all_goals
   go_ret
   exact ⟨rfl, rfl⟩
 ·
  obtain ⟨vk, vs, vt, ve, vb, va⟩ := vals_c66 o h0 h1
  have hne : ∀ c : Int, c < 66 ∨ 66 < c → (o == c) = false := fun c (h : c < 66 ∨ 66 < c) => beqF (by omega)
  obtain rfl : o = 66 := by omega
  clear hne h0 h1
  rw [vt]; clear vk vs vt ve vb va
  go_enter Tryz.func109, Tryz.ntmps109
  go_wp2
  all_goals
   go_ret
   exact ⟨rfl, rfl⟩
 ·
  obtain ⟨vk, vs, vt, ve, vb, va⟩ := vals_c67 o h0 h1
  have hne : ∀ c : Int, c < 67 ∨ 67 < c → (o == c) = false := fun c (h : c < 67 ∨ 67 < c) => beqF (by omega)
  obtain rfl : o = 67 := by omega
  clear hne h0 h1
  rw [vt]; clear vk vs vt ve vb va
  go_enter Tryz.func109, Tryz.ntmps109
  go_wp2
  all_goals
   go_ret
   exact ⟨rfl, rfl⟩
 ·
  obtain ⟨vk, vs, vt, ve, vb, va⟩ := vals_c68 o h0 h1
  have hne : ∀ c : Int, c < 68 ∨ 68 < c → (o == c) = false := fun c (h : c < 68 ∨ 68 < c) => beqF (by omega)
  obtain rfl : o = 68 := by omega
  clear hne h0 h1
  rw [vt]; clear vk vs vt ve vb va
  go_enter Tryz.func109, Tryz.ntmps109
  go_wp2
  all_goals
   go_ret
   exact ⟨rfl, rfl⟩
 ·
  obtain ⟨vk, vs, vt, ve, vb, va⟩ := vals_c69 o h0 h1
  have hne : ∀ c : Int, c < 69 ∨ 75 < c → (o == c) = false := fun c (h : c < 69 ∨ 75 < c) => beqF (by omega)
  rw [vt]; clear vk vs vt ve vb va
  go_enter Tryz.func109, Tryz.ntmps109
  go_wp2
  all_goals
   go_ret
   exact ⟨rfl, rfl⟩
 ·
  obtain ⟨vk, vs, vt, ve, vb, va⟩ := vals_c76 o h0 h1
  have hne : ∀ c : Int, c < 76 ∨ 77 < c → (o == c) = false := fun c (h : c < 76 ∨ 77 < c) => beqF (by omega)
  rw [vt]; clear vk vs vt ve vb va
  go_enter Tryz.func109, Tryz.ntmps109
  go_wp2
  all_goals
   go_ret
   exact ⟨rfl, rfl⟩
 ·
  obtain ⟨vk, vs, vt, ve, vb, va⟩ := vals_c78 o h0 h1
  have hne : ∀ c : Int, c < 78 ∨ 78 < c → (o == c) = false := fun c (h : c < 78 ∨ 78 < c) => beqF (by omega)
  obtain rfl : o = 78 := by omega
  clear hne h0 h1
  rw [vt]; clear vk vs vt ve vb va
  go_enter Tryz.func109, Tryz.ntmps109
  go_wp2
  all_goals
   go_ret
   exact ⟨rfl, rfl⟩
 ·
  obtain ⟨vk, vs, vt, ve, vb, va⟩ := vals_c79 o h0 h1
  have hne : ∀ c : Int, c < 79 ∨ 80 < c → (o == c) = false := fun c (h : c < 79 ∨ 80 < c) => beqF (by omega)
  rw [vt]; clear vk vs vt ve vb va
  go_enter Tryz.func109, Tryz.ntmps109
  go_wp2
  all_goals
   go_ret
   exact ⟨rfl, rfl⟩
 ·
  obtain ⟨vk, vs, vt, ve, vb, va⟩ := vals_g o (by omega)
  have hne : ∀ c : Int, c ≤ 80 → (o == c) = false := fun c (h : c ≤ 80) => beqF (by omega)
  rw [vt]; clear vk vs vt ve vb va
  go_enter Tryz.func109, Tryz.ntmps109
  go_wp2
  all_goals
   go_ret
   exact ⟨rfl, rfl⟩
end Go.Proofs.YtalejaklggnnpaaGreatDoor.I
