/-
  gantrylaw01.WireIntRoundTrip answers yes
-/
import Derived.Test.YtcblbepaigdlgaaGreatJB22
import Derived.ArgAppend
import Derived.Test.YtcblbepaigdlgaaGreatJB3
set_option linter.unusedVariables false
set_option linter.unusedSimpArgs false
set_option linter.unusedSectionVars false
namespace Go.Proofs.YtcblbepaigdlgaaGreat
open Go.RowKit
open Go.Lib (hid)
open W
end Go.Proofs.YtcblbepaigdlgaaGreat
