/- Layer 53: what the lexer says, pure. -/
import Derived.Test.YtfpdnhbbbadegaaGreatDoorName
import Derived.Lib.ParseIntB
import Derived.Lib.ItoaNum
import Derived.Lib.Bytealg
namespace Go.Proofs.YtfpdnhbbbadegaaGreatDoor
open Go.ChangeShapes Go.WideShapes Go.ChangeAt Go.RowKit Go.PlainAid
set_option linter.unusedSimpArgs false
set_option linter.unusedVariables false

def lt8 (c : UInt8) : Bool := letB (c.toNat : Int)
def dg8 (c : UInt8) : Bool := digB (c.toNat : Int)
def bl8 (c : UInt8) : Bool := decide (c.toNat = 9 ∨ c.toNat = 10 ∨ c.toNat = 13 ∨ c.toNat = 32)
/-- the length of an identifier at the beginning -/
def partL : List UInt8 → Nat
  | [] => 0
  | c :: r => if lt8 c = true then 1 + (r.takeWhile nameB).length else 0
/-- further parts of a name, behind '::', with slashes in their place, and how many bytes they take -/
def nmGo : Nat → List UInt8 → List UInt8 × Nat
  | 0, _ => ([], 0)
  | f + 1, l =>
    if [58, 58].isPrefixOf l = true then
      (if partL (l.drop 2) = 0 then ([], 0) else (47 :: (l.drop 2).take (partL (l.drop 2)) ++ (nmGo f (l.drop (2 + partL (l.drop 2)))).1, 2 + partL (l.drop 2) + (nmGo f (l.drop (2 + partL (l.drop 2)))).2))
    else ([], 0)
def nmT (l : List UInt8) : List UInt8 := l.take (partL l) ++ (nmGo l.length (l.drop (partL l))).1
def nmZ (l : List UInt8) : Nat := partL l + (nmGo l.length (l.drop (partL l))).2
def clsT (t : List UInt8) : Bool := decide (t.length ≤ 64) && clsL t
def kwL : List (List UInt8) := [[97, 98, 115, 116, 114, 97, 99, 116], [97, 115], [99, 97, 116, 99, 104], [99, 108, 97, 115, 115], [101, 108, 115, 101], [101, 120, 116, 101, 110, 100, 115], [102, 105, 110, 97, 108], [105, 102], [105, 109, 112, 108, 101, 109, 101, 110, 116, 115], [105, 110, 116], [105, 110, 116, 101, 114, 102, 97, 99, 101], [105, 115], [108, 101, 110], [108, 111, 110, 103], [110, 101, 119], [110, 117, 108, 108], [112, 114, 105, 118, 97, 116, 101], [112, 114, 111, 116, 101, 99, 116, 101, 100], [112, 117, 98, 108, 105, 99], [114, 101, 116, 117, 114, 110], [115, 116, 97, 116, 105, 99], [115, 117, 112, 101, 114], [115, 121, 110, 99], [116, 104, 105, 115], [116, 104, 114, 111, 119], [116, 114, 121], [118, 111, 105, 100], [119, 104, 105, 108, 101]]
def opL : List (List UInt8) := [[62, 62, 62], [60, 60], [62, 62], [61, 61], [33, 61], [60, 61], [62, 61], [38, 38], [124, 124], [123], [125], [40], [41], [91], [93], [59], [44], [46], [61], [43], [45], [42], [47], [37], [38], [124], [94], [33], [60], [62]]
def kwB (t : List UInt8) : Bool := kwL.contains t
/-- a token as it was scanned: its kind, text, number, and how many bytes it takes -/
structure Sc where
  k : Int
  s : List UInt8
  n : Int
  z : Nat
def scNm (l : List UInt8) : Option Sc := if clsT (nmT l) = true then some ⟨if kwB (nmT l) = true then 2 else 1, nmT l, 0, nmZ l⟩ else none
def dgN (l : List UInt8) : Nat := (l.takeWhile dg8).length
def okI (x : Lib.NumEnd Int) : Option Int := match x with | .ok v => some v | _ => none
def scNu (l : List UInt8) : Option Sc :=
  if 1 < dgN l ∧ l.head? = some 48 then none
  else if (l.drop (dgN l)).head? = some 76 then (okI (Lib.parseIntB 64 (l.take (dgN l)))).map fun v => ⟨4, [], v, dgN l + 1⟩
  else (okI (Lib.parseIntB 32 (l.take (dgN l)))).map fun v => ⟨3, [], v, dgN l⟩
def hxL : List UInt8 := [48, 49, 50, 51, 52, 53, 54, 55, 56, 57, 97, 98, 99, 100, 101, 102]
def hxV (c : UInt8) : Int := Lib.indexByte hxL c
/-- what follows a backslash: the byte that it stands for, and how many bytes it takes -/
def escL : List UInt8 → Option (UInt8 × Nat)
  | [] => none
  | c :: r =>
    if c.toNat = 34 ∨ c.toNat = 92 then some (c, 1)
    else if c.toNat = 110 then some (10, 1)
    else if c.toNat = 120 then (match r with
      | a :: b :: _ => if 0 ≤ hxV a ∧ 0 ≤ hxV b then some (UInt8.ofNat ((hxV a).toNat * 16 + (hxV b).toNat), 3) else none
      | _ => none)
    else none
/-- a string's bytes, up to the closing quotation mark, and how many bytes they take with it -/
def strGo : Nat → List UInt8 → Option (List UInt8 × Nat)
  | 0, _ => none
  | _ + 1, [] => none
  | f + 1, c :: r =>
    if c.toNat = 34 then some ([], 1)
    else if c.toNat < 32 ∨ 126 < c.toNat then none
    else if c.toNat = 92 then (match escL r with
      | none => none
      | some (e, n) => (strGo f (r.drop n)).map fun x => (e :: x.1, 1 + n + x.2))
    else (strGo f r).map fun x => (c :: x.1, 1 + x.2)
def scSt (l : List UInt8) : Option Sc :=
  match strGo l.length (l.drop 1) with
  | some (b, z) => if b.length ≤ 1024 then some ⟨5, b, 0, 1 + z⟩ else none
  | none => none
def scOp (l : List UInt8) : Option Sc := (opL.find? (·.isPrefixOf l)).map fun o => ⟨6, o, 0, o.length⟩
def scL (l : List UInt8) : Option Sc :=
  match l with
  | [] => none
  | c :: _ => if lt8 c = true then scNm l else if dg8 c = true then scNu l else if c.toNat = 34 then scSt l else scOp l
/-- how many bytes of white space and comments there are at the beginning -/
def skGo : Nat → List UInt8 → Nat
  | 0, _ => 0
  | _ + 1, [] => 0
  | f + 1, c :: r =>
    if bl8 c = true then 1 + skGo f r
    else if [47, 47].isPrefixOf (c :: r) = true then ((c :: r).takeWhile (· != 10)).length + skGo f ((c :: r).drop ((c :: r).takeWhile (· != 10)).length)
    else 0
def skL (l : List UInt8) : Nat := skGo l.length l
/-- a token -/
structure Tk where
  k : Int
  s : List UInt8
  n : Int
  a : Int
/-- the tokens, or where the first error is, and which -/
def tkGo : Nat → Nat → Nat → List UInt8 → List Tk × Int × Int
  | 0, _, _, _ => ([], 0, 0)
  | f + 1, cnt, at', l =>
    if l.drop (skL l) = [] then ([], 0, 0)
    else if cnt = 5000 then ([], 0, 5)
    else match scL (l.drop (skL l)) with
      | none => ([], ((at' + skL l : Nat) : Int), 70)
      | some t =>
        if (tkGo f (cnt + 1) (at' + skL l + t.z) (l.drop (skL l + t.z))).2.2 = 0 then (⟨t.k, t.s, t.n, ((at' + skL l : Nat) : Int)⟩ :: (tkGo f (cnt + 1) (at' + skL l + t.z) (l.drop (skL l + t.z))).1, 0, 0)
        else ([], (tkGo f (cnt + 1) (at' + skL l + t.z) (l.drop (skL l + t.z))).2)
def tkL (l : List UInt8) : List Tk × Int × Int := if 20000 < l.length then ([], 0, 8) else tkGo (l.length + 1) 0 0 l
/-- the text of a token -/
def rpL (t : List UInt8) : List UInt8 := t.flatMap fun c => if c.toNat = 47 then [58, 58] else [c]
def hxC (n : Nat) : UInt8 := hxL.getD n 0
def qtC (c : UInt8) : List UInt8 :=
  if c.toNat = 34 ∨ c.toNat = 92 then [92, c] else if c.toNat = 10 then [92, 110] else if c.toNat < 32 ∨ 126 < c.toNat then [92, 120, hxC (c.toNat / 16), hxC (c.toNat % 16)] else [c]
def quL (b : List UInt8) : List UInt8 := 34 :: (b.flatMap qtC ++ [34])
def txL (k : Int) (s : List UInt8) (n : Int) : List UInt8 :=
  if k = 1 then rpL s else if k = 3 then Lib.itoa n else if k = 4 then Lib.itoa n ++ [76] else if k = 5 then quL s else s
/-- may the token be formatted? -/
def fmB (k : Int) (s : List UInt8) (n : Int) : Bool :=
  match scL (txL k s n) with
  | some t => decide (t.z = (txL k s n).length) && (decide (t.k = k) && (decide (t.s = s) && decide (t.n = n)))
  | none => false
/-- the joined texts -/
def joW : List Tk → List UInt8
  | [] => []
  | [t] => txL t.k t.s t.n
  | t :: u :: r => txL t.k t.s t.n ++ 32 :: joW (u :: r)
def joE (l : List Tk) : Int := if 5000 < l.length then 5 else if l.all (fun t => fmB t.k t.s t.n) = true then (if 20000 < (joW l).length then 8 else 0) else 1
def joS (l : List Tk) : List UInt8 := if joE l = 0 then joW l else []

end Go.Proofs.YtfpdnhbbbadegaaGreatDoor
