/-
  Contracts of gantry/gantryref01: Same, S
-/
import Derived.Test.YtcblbepaigdlgaaGreatJB21
import Derived.ChangeKeysEq
import Derived.Test.YtcblbepaigdlgaaGreatJB3
set_option linter.unusedVariables false
set_option linter.unusedSimpArgs false
set_option linter.unusedSectionVars false
namespace Go.Proofs.YtcblbepaigdlgaaGreat
open Go.RowKit
open Go.Lib (hid)
open W
end Go.Proofs.YtcblbepaigdlgaaGreat
