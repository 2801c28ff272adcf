/-
  Contracts of gantry/integer: place, top, guess.
  Contract of gantry/integer: take.
-/
import Derived.Test.YtpgiebimhnhbiaaGreatDoorJI34
import Derived.Test.YtpgiebimhnhbiaaGreatDoorJI24
import Derived.Shelf.Spec.BitsCarry
set_option linter.unusedVariables false
set_option linter.unusedSimpArgs false
set_option linter.unusedSectionVars false
namespace Go.Proofs.YtpgiebimhnhbiaaGreatDoor
open Go.RowKit
open Go.Lib (hid)
open Dg
namespace Zn
structure Chg (g : Nat) (w w' : World) : Prop where
 below : Below g w w'
 above : ∀ k, g < k → k < w.heap.size → w'.heap[k]? = w.heap[k]?
end Zn
end Go.Proofs.YtpgiebimhnhbiaaGreatDoor
