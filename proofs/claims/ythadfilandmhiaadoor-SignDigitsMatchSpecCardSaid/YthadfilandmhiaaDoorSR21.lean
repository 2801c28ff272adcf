/-
  Contracts of cmp.Compare and gantry/integer: compare.
-/
import Derived.Test.YthadfilandmhiaaDoorSR12
import Derived.BigQuiet
import Derived.Deep.QuietTactic
set_option linter.unusedVariables false
set_option linter.unusedSimpArgs false
set_option linter.unusedSectionVars false
namespace Go.Proofs.YthadfilandmhiaaDoor
open Go.RowKit
open Go.Lib (hid)
open Dg
namespace Zn
end Zn
end Go.Proofs.YthadfilandmhiaaDoor
