/-
  gantry/gantrylaw02.hex: the hexadecimal digits of a text.
-/
import Derived.Test.YthadfilandmhiaaDoorSR25
import Derived.Test.YthadfilandmhiaaDoorSR19
import Derived.StillTailTactics
set_option linter.unusedVariables false
set_option linter.unusedSimpArgs false
set_option linter.unusedSectionVars false
namespace Go.Proofs.YthadfilandmhiaaDoor
open Go.RowKit
open Go.Lib (hid)
open S
end Go.Proofs.YthadfilandmhiaaDoor
