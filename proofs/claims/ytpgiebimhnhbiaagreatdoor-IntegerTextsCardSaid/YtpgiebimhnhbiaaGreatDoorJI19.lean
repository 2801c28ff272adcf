/-
  Contracts of gantry/gantryref01: Same, SameInts, SameTexts, SameDigests on lists that are the same.
  gantrylaw01.sanity answers yes.
  Contracts of gantry/gantryref01: Int.
-/
import Derived.Test.YtpgiebimhnhbiaaGreatDoorJI18
import Derived.ChangeKeysEq
import Derived.Test.YtpgiebimhnhbiaaGreatDoorJI4
set_option linter.unusedVariables false
set_option linter.unusedSimpArgs false
set_option linter.unusedSectionVars false
namespace Go.Proofs.YtpgiebimhnhbiaaGreatDoor
open Go.RowKit
open Go.Lib (hid)
open W
end Go.Proofs.YtpgiebimhnhbiaaGreatDoor
