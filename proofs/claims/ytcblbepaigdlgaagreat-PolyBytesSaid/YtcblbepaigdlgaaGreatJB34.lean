/-
  Plain: texts of decimal digits.
-/
import Derived.Test.YtcblbepaigdlgaaGreatJB33
import Derived.Lib.Atoi
set_option linter.unusedVariables false
set_option linter.unusedSimpArgs false
set_option linter.unusedSectionVars false
namespace Go.Proofs.YtcblbepaigdlgaaGreat
open Dg Zn
namespace Tx
def isD (b : UInt8) : Bool := decide (48 ≤ b.toNat) && decide (b.toNat ≤ 57)
end Tx
end Go.Proofs.YtcblbepaigdlgaaGreat
