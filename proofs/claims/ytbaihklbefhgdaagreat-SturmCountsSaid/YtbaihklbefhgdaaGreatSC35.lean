/-
  
-/
import Derived.Test.YtbaihklbefhgdaaGreatSC29
import Derived.Lib.Atoi
set_option linter.unusedVariables false
set_option linter.unusedSimpArgs false
set_option linter.unusedSectionVars false
namespace Go.Proofs.YtbaihklbefhgdaaGreat
open Dg Zn
namespace Tx
end Tx
end Go.Proofs.YtbaihklbefhgdaaGreat
