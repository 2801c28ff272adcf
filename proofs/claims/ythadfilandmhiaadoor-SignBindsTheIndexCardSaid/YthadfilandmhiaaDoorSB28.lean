/-
  Contracts of gantry/integer: value, split.
-/
import Derived.Test.YthadfilandmhiaaDoorSB21
import Derived.Laws.CopyOwn
import Derived.Laws.CopyRow
set_option linter.unusedVariables false
set_option linter.unusedSimpArgs false
set_option linter.unusedSectionVars false
namespace Go.Proofs.YthadfilandmhiaaDoor
open Go.RowKit
open Go.Lib (hid)
open Dg
namespace Zn
end Zn
end Go.Proofs.YthadfilandmhiaaDoor
