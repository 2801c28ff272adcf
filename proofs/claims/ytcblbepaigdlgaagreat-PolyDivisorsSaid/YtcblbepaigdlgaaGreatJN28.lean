/-
  Plain: texts of decimal digits.
-/
import Derived.Test.YtcblbepaigdlgaaGreatJN27
import Derived.Lib.Atoi
set_option linter.unusedVariables false
set_option linter.unusedSimpArgs false
set_option linter.unusedSectionVars false
namespace Go.Proofs.YtcblbepaigdlgaaGreat
open Dg Zn
namespace Tx
end Tx
end Go.Proofs.YtcblbepaigdlgaaGreat
