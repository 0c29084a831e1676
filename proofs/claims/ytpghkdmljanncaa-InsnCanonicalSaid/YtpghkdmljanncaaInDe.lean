/- Layer 8: what decoding reads, pure. -/
import Derived.Test.YtpghkdmljanncaaInSz
namespace Go.Proofs.Ytpghkdmljanncaa
open Go.ChangeShapes Go.WideShapes Go.ChangeAt Go.RowKit Go.PlainAid
set_option linter.unusedSimpArgs false
set_option linter.unusedVariables false

/-- an instruction without its place in memory -/
structure Co where
  op : Int
  a : Int
  b : Int
  t : Int
  ks : List Int
  ts : List Int
def In.core (i : In) : Co := ⟨i.op, i.a, i.b, i.t, i.ks, i.ts⟩
/-- no reference, no text -/
def In.bare (i : In) : Prop := i.r1 = ⟨#[]⟩ ∧ i.r2 = ⟨#[]⟩ ∧ i.r3 = ⟨#[]⟩ ∧ i.s = ⟨#[]⟩
/-- the bytes that an instruction at p takes, -1 if they are not there -/
def hdV (op : Int) : Int := if op = 54 then 5 else 9
def ndV (s : ByteArray) (p op : Int) : Int :=
  if op = 53 ∨ op = 54 then
    (if s.size < p + hdV op then -1 else
      (if s.size < p + (hdV op + (if op = 54 then 6 else 2) * unsV s (p + hdV op - 2) 2) then -1 else hdV op + (if op = 54 then 6 else 2) * unsV s (p + hdV op - 2) 2))
  else if s.size < p + sizeV op then -1 else sizeV op
/-- the numbers of a switch -/
def nuL (f : Int → Int) (n : Nat) : List Int := (List.range n).map fun (k : Nat) => f (k : Int)
theorem nuL_len (f : Int → Int) (n : Nat) : (nuL f n).length = n := by simp [nuL]
theorem nuL_succ (f : Int → Int) (n : Nat) : nuL f (n + 1) = nuL f n ++ [f n] := by unfold nuL; rw [List.range_succ, List.map_append]; rfl
def tkC (s : ByteArray) (p op : Int) : Co :=
  if kindV op = 1 then ⟨op, sigV s (p + 1) 1, 0, 0, [], []⟩
  else if kindV op = 2 then ⟨op, unsV s (p + 1) 2, 0, 0, [], []⟩
  else if kindV op = 3 then ⟨op, 0, 0, unsV s (p + 1) 2, [], []⟩
  else if kindV op = 4 then ⟨op, unsV s (p + 1) 1, 0, 0, [], []⟩
  else if kindV op = 5 then ⟨op, unsV s (p + 1) 1, sigV s (p + 2) 1, 0, [], []⟩
  else if kindV op = 6 then ⟨op, sigV s (p + 3) 4, 0, unsV s (p + 1) 2, [], nuL (fun k => unsV s (p + 9 + 2 * k) 2) (unsV s (p + 7) 2).toNat⟩
  else if kindV op = 7 then ⟨op, 0, 0, unsV s (p + 1) 2, nuL (fun k => sigV s (p + 5 + 6 * k) 4) (unsV s (p + 3) 2).toNat, nuL (fun k => unsV s (p + 9 + 6 * k) 2) (unsV s (p + 3) 2).toNat⟩
  else ⟨op, 0, 0, 0, [], []⟩
/-- the instructions from p on, with their places; the error -/
def scF (s : ByteArray) : Nat → Int → List (Int × Co) × Int
  | 0, _ => ([], 0)
  | f + 1, p =>
    if (s.size : Int) ≤ p then ([], 0)
    else if kindV (bt s p.toNat) < 0 then ([], 15)
    else if ndV s p (bt s p.toNat) < 0 then ([], 3)
    else ((p, tkC s p (bt s p.toNat)) :: (scF s f (p + ndV s p (bt s p.toNat))).1, (scF s f (p + ndV s p (bt s p.toNat))).2)
def scV (s : ByteArray) : List (Int × Co) × Int := scF s (s.size + 1) 0
theorem uns2_nn (s : ByteArray) (p : Int) : 0 ≤ unsV s p 2 ∧ unsV s p 2 ≤ 65535 := uns2_bd s p
theorem ndV_pos {s : ByteArray} {p op : Int} (hk : 0 ≤ kindV op) (h : ¬ ndV s p op < 0) : 1 ≤ ndV s p op ∧ p + ndV s p op ≤ s.size := by
  unfold ndV at h ⊢
  have hu := uns2_nn s (p + hdV op - 2)
  have hh : hdV op = 5 ∨ hdV op = 9 := by unfold hdV; split <;> omega
  by_cases h1 : op = 53 ∨ op = 54
  · rw [if_pos h1] at h ⊢
    by_cases h2 : (s.size : Int) < p + hdV op
    · rw [if_pos h2] at h; omega
    · rw [if_neg h2] at h ⊢
      by_cases h3 : (s.size : Int) < p + (hdV op + (if op = 54 then 6 else 2) * unsV s (p + hdV op - 2) 2)
      · rw [if_pos h3] at h; omega
      · rw [if_neg h3] at h ⊢
        refine ⟨?_, by omega⟩
        split <;> omega
  · rw [if_neg h1] at h ⊢
    have hs := sizeV_bd hk
    by_cases h2 : (s.size : Int) < p + sizeV op
    · rw [if_pos h2] at h; omega
    · rw [if_neg h2] at h ⊢
      omega
/-- enough fuel is enough -/
theorem scF_more (s : ByteArray) : ∀ (f : Nat) (p : Int), 0 ≤ p → (s.size : Int) - p < f → ∀ g : Nat, (s.size : Int) - p < g → scF s f p = scF s g p
  | 0, p, h0, hf, g, hg => by
    cases g with
    | zero => rfl
    | succ g => unfold scF; rw [if_pos (by omega)]
  | f + 1, p, h0, hf, g, hg => by
    cases g with
    | zero => unfold scF; rw [if_pos (by omega)]
    | succ g =>
      unfold scF
      by_cases h1 : (s.size : Int) ≤ p
      · rw [if_pos h1, if_pos h1]
      · rw [if_neg h1, if_neg h1]
        by_cases h2 : kindV (bt s p.toNat) < 0
        · rw [if_pos h2, if_pos h2]
        · rw [if_neg h2, if_neg h2]
          by_cases h3 : ndV s p (bt s p.toNat) < 0
          · rw [if_pos h3, if_pos h3]
          · rw [if_neg h3, if_neg h3]
            have hp := ndV_pos (by omega) h3
            rw [scF_more s f (p + ndV s p (bt s p.toNat)) (by omega) (by omega) g (by omega)]
/-- what is left to read from p -/
def scA (s : ByteArray) (p : Int) : List (Int × Co) × Int := scF s (s.size + 1) p
theorem scA_end {s : ByteArray} {p : Int} (h : (s.size : Int) ≤ p) : scA s p = ([], 0) := by unfold scA scF; rw [if_pos h]
theorem scA_op {s : ByteArray} {p : Int} (h : p < s.size) (hk : kindV (bt s p.toNat) < 0) : scA s p = ([], 15) := by unfold scA scF; rw [if_neg (by omega), if_pos hk]
theorem scA_cut {s : ByteArray} {p : Int} (h : p < s.size) (hk : ¬ kindV (bt s p.toNat) < 0) (hn : ndV s p (bt s p.toNat) < 0) : scA s p = ([], 3) := by unfold scA scF; rw [if_neg (by omega), if_neg hk, if_pos hn]
theorem scA_go {s : ByteArray} {p : Int} (h0 : 0 ≤ p) (h : p < s.size) (hk : ¬ kindV (bt s p.toNat) < 0) (hn : ¬ ndV s p (bt s p.toNat) < 0) :
    scA s p = ((p, tkC s p (bt s p.toNat)) :: (scA s (p + ndV s p (bt s p.toNat))).1, (scA s (p + ndV s p (bt s p.toNat))).2) := by
  have hp := ndV_pos (by omega) hn
  have e := scF_more s s.size (p + ndV s p (bt s p.toNat)) (by omega) (by omega) (s.size + 1) (by omega)
  show scF s (s.size + 1) p = ((p, tkC s p (bt s p.toNat)) :: (scF s (s.size + 1) (p + ndV s p (bt s p.toNat))).1, (scF s (s.size + 1) (p + ndV s p (bt s p.toNat))).2)
  rw [← e]
  show (if (s.size : Int) ≤ p then ([], 0) else if kindV (bt s p.toNat) < 0 then ([], 15) else if ndV s p (bt s p.toNat) < 0 then ([], 3) else ((p, tkC s p (bt s p.toNat)) :: (scF s s.size (p + ndV s p (bt s p.toNat))).1, (scF s s.size (p + ndV s p (bt s p.toNat))).2)) = _
  rw [if_neg (by omega), if_neg hk, if_neg hn]
/-- one byte -/
theorem uns1 {s : ByteArray} {p : Int} (h0 : 0 ≤ p) (h : p < s.size) : unsV s p 1 = bt s p.toNat ∧ unsE s p 1 = 0 := by
  have he : unsE s p 1 = 0 := by
    unfold unsE
    rw [if_neg (by simp [okSize]), if_neg (by omega), if_neg (by omega)]
  refine ⟨?_, he⟩
  unfold unsV
  rw [if_pos he]
  have h1 := bt_nonneg s p.toNat
  have h2 := bt_le s p.toNat
  show wrap64 (0 * 256 + fromB s p.toNat 0) = _
  unfold fromB
  rw [Nat.add_zero, Int.zero_mul, Int.zero_add, wrap64_id (by omega)]

end Go.Proofs.Ytpghkdmljanncaa
