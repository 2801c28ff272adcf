/-
  Contracts of gantry/gantryref01: Bytes, Ints, Strings, Digests.
-/
import Derived.Test.YtpgiebimhnhbiaaGreatDoorJI19
import Derived.Test.YtpgiebimhnhbiaaGreatDoorJI20
import Derived.Lib.ConvBytes
set_option linter.unusedVariables false
set_option linter.unusedSimpArgs false
set_option linter.unusedSectionVars false
namespace Go.Proofs.YtpgiebimhnhbiaaGreatDoor
open Go.RowKit
open Go.Lib (hid)
open W
end Go.Proofs.YtpgiebimhnhbiaaGreatDoor
