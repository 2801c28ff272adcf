/-
  Contracts of gantry/integer: common, Gcd.
-/
import Derived.Test.YtpgiebimhnhbiaaGreatDoorJI36
import Derived.Test.YtpgiebimhnhbiaaGreatDoorJI2
import Derived.BigQuiet
import Derived.BigFrame
set_option linter.unusedVariables false
set_option linter.unusedSimpArgs false
set_option linter.unusedSectionVars false
namespace Go.Proofs.YtpgiebimhnhbiaaGreatDoor
open Go.RowKit
open Go.Lib (hid)
open Dg
namespace Zn
end Zn
end Go.Proofs.YtpgiebimhnhbiaaGreatDoor
