/-
  gantrylaw01.WireIntRoundTrip answers yes.
  gantrylaw01.WireConcat answers yes.
-/
import Derived.Test.YtpgiebimhnhbiaaGreatDoorJT19
import Derived.ArgAppend
import Derived.Test.YtpgiebimhnhbiaaGreatDoorJT4
set_option linter.unusedVariables false
set_option linter.unusedSimpArgs false
set_option linter.unusedSectionVars false
namespace Go.Proofs.YtpgiebimhnhbiaaGreatDoor
open Go.RowKit
open Go.Lib (hid)
open W
end Go.Proofs.YtpgiebimhnhbiaaGreatDoor
