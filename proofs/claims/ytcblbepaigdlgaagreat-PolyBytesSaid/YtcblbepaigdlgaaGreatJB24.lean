/-
  Contracts of gantry/gantryref01: Bytes,
-/
import Derived.Test.YtcblbepaigdlgaaGreatJB22
import Derived.Test.YtcblbepaigdlgaaGreatJB23
import Derived.Lib.ConvBytes
set_option linter.unusedVariables false
set_option linter.unusedSimpArgs false
set_option linter.unusedSectionVars false
namespace Go.Proofs.YtcblbepaigdlgaaGreat
open Go.RowKit
open Go.Lib (hid)
open W
end Go.Proofs.YtcblbepaigdlgaaGreat
