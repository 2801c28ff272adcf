/-
  Contracts of gantry/integer: numeral and
-/
import Derived.Test.YtcblbepaigdlgaaGreatJB31
import Derived.Lib.ConvBytes
import Derived.Test.YtcblbepaigdlgaaGreatJB13
set_option linter.unusedVariables false
set_option linter.unusedSimpArgs false
set_option linter.unusedSectionVars false
namespace Go.Proofs.YtcblbepaigdlgaaGreat
open Go.RowKit
open Go.Lib (hid)
open Dg
namespace Zn
end Zn
end Go.Proofs.YtcblbepaigdlgaaGreat
