/-
  
-/
import Derived.Test.YtjmbkipbmbnhjaaGreatSQ28
import Derived.Lib.ConvBytes
import Derived.Test.YtjmbkipbmbnhjaaGreatSQ29
set_option linter.unusedVariables false
set_option linter.unusedSimpArgs false
set_option linter.unusedSectionVars false
namespace Go.Proofs.YtjmbkipbmbnhjaaGreat
open Go.RowKit
open Go.Lib (hid)
open Dg
namespace Zn
end Zn
end Go.Proofs.YtjmbkipbmbnhjaaGreat
