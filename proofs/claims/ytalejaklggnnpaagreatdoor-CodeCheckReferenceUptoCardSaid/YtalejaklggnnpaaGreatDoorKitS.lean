import Derived.Test.YtalejaklggnnpaaGreatDoorRows
import Derived.WalkKit
import Derived.WalkLawsBesides
import Derived.WalkSpells
import Derived.ProofKit
import Derived.OpenShut
import Derived.Outline
import Derived.IntWalk
import Derived.Laws.BitsLemmas
import Derived.Lib.Hide
import Derived.Handy
import Derived.PlainAid
import Derived.Laws.BytesArg
import Derived.LoopTactic
import Derived.Below
import Derived.ChangeSame
import Derived.ShutString
/- Small general lemmas: endings, wraps, and the last step of a law's proof where of the last world only 'Below' is known. -/
namespace Go.Proofs.YtalejaklggnnpaaGreatDoor
open Go.ChangeShapes Go.WideShapes Go.ChangeAt Go.RowKit
set_option linter.unusedSimpArgs false
set_option linter.unusedVariables false
theorem ret_bool {a b : Bool} (h : a = b) : Ending.returned (.bool a) = .returned (.bool b) := by rw [h]
theorem beqF {a b : Int} (h : a ≠ b) : (a == b) = false := by simpa using h
section
variable {H : Type} {enc : TypeId × Value → H} {P : Program}
/-- What a law's proof owes behind the walk: one result, the arguments as they read, and that nothing below the first new block has turned. -/
theorem post_law {f : Func} {s : ChangeSpec} {apart : Bool} {W W' : World} {args : Array Value} {v : Value} {ds : List (DataW H)} {before : List MemPlace}
  (hW : DataW.Whole enc P f.params.toList s.vars apart W args.toList ds [] before) (hvs : s.vars = [])
  (hres : ∀ (b : Nat) (sp : Nat → Bool) (hd : Bool), DataW.TrodAll enc P W' b sp hd f.resultTypes.toList (v.resultList f.resultTypes.size) (s.fn H ds).results [])
  (hargs : ∀ sp : Nat → Bool, (∀ p ∈ before, sp p.block = true) → DataW.TrodAll enc P W' 0 sp true f.params.toList args.toList (s.fn H ds).args before)
  (hvars : (s.fn H ds).vars = [])
  (hb : Below W.heap.size W W')
  (hok : ∀ (j : Nat) (t : TypeId) (r : Value), f.resultTypes[j]? = some t → (v.resultList f.resultTypes.size)[j]? = some r → Value.okWide P W' .any 0 t r) :
  s.post enc P f apart true false false W args v W' := by
 have low : ∀ p ∈ before, p.block < W.heap.size := fun p hp => hW.lt p hp
 have keep := hb.frame (· ∈ before)
 have hv : ∀ sp : Nat → Bool, DataW.TrodVars enc P W' sp s.vars (s.fn H (ds ++ [])).vars [] := by
  intro sp; rw [hvs, List.append_nil, hvars]; rfl
 have old : ∀ p ∈ before, (fun b => decide (b < W.heap.size)) p.block = true := fun p hp => by simpa using low p hp
 have res : ∀ b sp hd, DataW.TrodAll enc P W' b sp hd f.resultTypes.toList (v.resultList f.resultTypes.size) (s.fn H (ds ++ [])).results [] := by
  intro b sp hd; rw [List.append_nil]; exact hres b sp hd
 have arg : ∀ sp : Nat → Bool, (∀ p ∈ before, sp p.block = true) → DataW.TrodAll enc P W' 0 sp true f.params.toList args.toList (s.fn H (ds ++ [])).args before := by
  rw [List.append_nil]; exact hargs
 refine ⟨ds, [], before, [], before, [], hW, res _ _ _, arg _ old, hv _, World.keptBut_mono (fun p hp => ⟨hp, Or.inr (by simpa using hp)⟩) keep, fun ha => ?_⟩
 cases ha
end
end Go.Proofs.YtalejaklggnnpaaGreatDoor
/- Contracts of package octet: Put and what it calls. -/
namespace Go.Proofs.YtalejaklggnnpaaGreatDoor
open Go.ChangeShapes Go.WideShapes Go.ChangeAt Go.RowKit Go.PlainAid
set_option linter.unusedSimpArgs false
set_option linter.unusedVariables false
def okSize (z : Int) : Prop := z = 1 ∨ z = 2 ∨ z = 4 ∨ z = 8
def fitsP (n z : Int) : Prop := z = 8 ∨ (z = 1 ∧ -128 ≤ n ∧ n ≤ 255) ∨ (z = 2 ∧ -32768 ≤ n ∧ n ≤ 65535) ∨ (z = 4 ∧ -2147483648 ≤ n ∧ n ≤ 4294967295)
end Go.Proofs.YtalejaklggnnpaaGreatDoor
/- Contracts of package octet: Unsigned and Signed. -/
namespace Go.Proofs.YtalejaklggnnpaaGreatDoor
open Go.ChangeShapes Go.WideShapes Go.ChangeAt Go.RowKit Go.PlainAid
set_option linter.unusedSimpArgs false
set_option linter.unusedVariables false
end Go.Proofs.YtalejaklggnnpaaGreatDoor
/- Contracts of the reference of layer 2: Put. -/
namespace Go.Proofs.YtalejaklggnnpaaGreatDoor
open Go.ChangeShapes Go.WideShapes Go.ChangeAt Go.RowKit Go.PlainAid
set_option linter.unusedSimpArgs false
set_option linter.unusedVariables false
end Go.Proofs.YtalejaklggnnpaaGreatDoor
/- Contracts of the reading functions of package octet and of its reference: one plain function for both. -/
namespace Go.Proofs.YtalejaklggnnpaaGreatDoor
open Go.ChangeShapes Go.WideShapes Go.ChangeAt Go.RowKit Go.PlainAid
set_option linter.unusedSimpArgs false
set_option linter.unusedVariables false
instance (z : Int) : Decidable (okSize z) := by unfold okSize; infer_instance
instance (n z : Int) : Decidable (fitsP n z) := by unfold fitsP; infer_instance
end Go.Proofs.YtalejaklggnnpaaGreatDoor
