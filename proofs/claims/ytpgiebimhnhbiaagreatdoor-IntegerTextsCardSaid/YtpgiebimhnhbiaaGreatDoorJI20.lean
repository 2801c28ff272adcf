/-
  gantrylaw01.WireIntRoundTrip answers yes.
  gantrylaw01.WireConcat answers yes.
-/
import Derived.Test.YtpgiebimhnhbiaaGreatDoorJI19
import Derived.ArgAppend
import Derived.Test.YtpgiebimhnhbiaaGreatDoorJI4
set_option linter.unusedVariables false
set_option linter.unusedSimpArgs false
set_option linter.unusedSectionVars false
namespace Go.Proofs.YtpgiebimhnhbiaaGreatDoor
open Go.RowKit
open Go.Lib (hid)
open W
end Go.Proofs.YtpgiebimhnhbiaaGreatDoor
