/-
  
-/
import Derived.Test.YtbaihklbefhgdaaGreatSC35
import Derived.Lib.ItoaMem
set_option linter.unusedVariables false
set_option linter.unusedSimpArgs false
set_option linter.unusedSectionVars false
namespace Go.Proofs.YtbaihklbefhgdaaGreat
open Dg Zn
namespace Tx
open Lib
end Tx
end Go.Proofs.YtbaihklbefhgdaaGreat
