/-
  Contracts of gantry/gantryref02: Mac.
-/
import Derived.Test.YthadfilandmhiaaDoorSR32
import Derived.Lib.AppendStr
set_option linter.unusedVariables false
set_option linter.unusedSimpArgs false
set_option linter.unusedSectionVars false
namespace Go.Proofs.YthadfilandmhiaaDoor
open Go.RowKit
open Go.Lib (hid)
open S
end Go.Proofs.YthadfilandmhiaaDoor
