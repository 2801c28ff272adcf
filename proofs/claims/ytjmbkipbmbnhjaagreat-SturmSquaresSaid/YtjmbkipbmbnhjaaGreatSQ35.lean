/-
  
-/
import Derived.Test.YtjmbkipbmbnhjaaGreatSQ31
import Derived.Lib.Atoi
set_option linter.unusedVariables false
set_option linter.unusedSimpArgs false
set_option linter.unusedSectionVars false
namespace Go.Proofs.YtjmbkipbmbnhjaaGreat
open Dg Zn
namespace Tx
end Tx
end Go.Proofs.YtjmbkipbmbnhjaaGreat
