/- Contracts of package octet: Put and what it calls. -/
import Derived.Test.YtdppooflbjlbcaaDoorKit
namespace Go.Proofs.YtdppooflbjlbcaaDoor
open Go.ChangeShapes Go.WideShapes Go.ChangeAt Go.RowKit Go.PlainAid
set_option linter.unusedSimpArgs false
set_option linter.unusedVariables false

def okSize (z : Int) : Prop := z = 1 ∨ z = 2 ∨ z = 4 ∨ z = 8
def fitsP (n z : Int) : Prop := z = 8 ∨ (z = 1 ∧ -128 ≤ n ∧ n ≤ 255) ∨ (z = 2 ∧ -32768 ≤ n ∧ n ≤ 65535) ∨ (z = 4 ∧ -2147483648 ≤ n ∧ n ≤ 4294967295)
/-- the bytes of n in the size z -/
def putL (n z : Int) : List Int :=
  if z = 1 then [n % 256] else if z = 2 then [n / 256 % 256, n % 256] else if z = 4 then [n / 16777216 % 256, n / 65536 % 256, n / 256 % 256, n % 256]
  else [n / 72057594037927936 % 256, n / 281474976710656 % 256, n / 1099511627776 % 256, n / 4294967296 % 256, n / 16777216 % 256, n / 65536 % 256, n / 256 % 256, n % 256]

end Go.Proofs.YtdppooflbjlbcaaDoor
