/-
  Contracts of gantry/gantryref02: padKey, Mac.
-/
import Derived.Test.YthadfilandmhiaaDoorSR30
import Derived.Test.YthadfilandmhiaaDoorSR23
import Derived.Test.YthadfilandmhiaaDoorSR25
import Derived.Test.YthadfilandmhiaaDoorSR19
set_option linter.unusedVariables false
set_option linter.unusedSimpArgs false
set_option linter.unusedSectionVars false
namespace Go.Proofs.YthadfilandmhiaaDoor
open Go.RowKit
open Go.Lib (hid)
open S
end Go.Proofs.YthadfilandmhiaaDoor
