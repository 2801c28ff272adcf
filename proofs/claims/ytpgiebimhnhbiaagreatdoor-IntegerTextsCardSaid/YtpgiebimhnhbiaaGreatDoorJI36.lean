/-
  Contract of gantry/integer: divideLong, divide.
  Contracts of gantry/integer: leading, stepsOf.
-/
import Derived.Test.YtpgiebimhnhbiaaGreatDoorJI35
import Derived.Test.YtpgiebimhnhbiaaGreatDoorJI26
import Derived.Test.YtpgiebimhnhbiaaGreatDoorJI1
set_option linter.unusedVariables false
set_option linter.unusedSimpArgs false
set_option linter.unusedSectionVars false
namespace Go.Proofs.YtpgiebimhnhbiaaGreatDoor
open Go.RowKit
open Go.Lib (hid)
open Dg
namespace Zn
structure SLoop (A B : Nat) (x0 y0 M p q r s x y : Int) : Prop where
 ex : ∃ X Y : Int, Lh.T A B x0 y0 M p q r s x y X Y ∧ 0 ≤ Y ∧ Y ≤ X ∧ X ≤ A ∧ (q = 0 ∨ Y < B) ∧ Y ≤ B ∧ Int.gcd X Y = Nat.gcd A B
 bd : -1000000000 < p ∧ p < 1000000000 ∧ -1000000000 < q ∧ q < 1000000000 ∧ -1000000000 < r ∧ r < 1000000000 ∧ -1000000000 < s ∧ s < 1000000000
 x0b : x0 < 1000000000000000000
 y0b : y0 < 1000000000000000000
 xb : x < 1000000000000000000
 yb : y < 1000000000000000000
end Zn
end Go.Proofs.YtpgiebimhnhbiaaGreatDoor
