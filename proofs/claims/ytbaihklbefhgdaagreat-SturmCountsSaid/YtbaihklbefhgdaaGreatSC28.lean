/-
  
-/
import Derived.Test.YtbaihklbefhgdaaGreatSC27
import Derived.Lib.ConvBytes
import Derived.Test.YtbaihklbefhgdaaGreatSC14
set_option linter.unusedVariables false
set_option linter.unusedSimpArgs false
set_option linter.unusedSectionVars false
namespace Go.Proofs.YtbaihklbefhgdaaGreat
open Go.RowKit
open Go.Lib (hid)
open Dg
namespace Zn
end Zn
end Go.Proofs.YtbaihklbefhgdaaGreat
