/-
  
-/
import Derived.Test.YtjmbkipbmbnhjaaGreatSQ30
import Derived.Lib.AppendIntMem
import Derived.Lib.ItoaLen
set_option linter.unusedVariables false
set_option linter.unusedSimpArgs false
set_option linter.unusedSectionVars false
namespace Go.Proofs.YtjmbkipbmbnhjaaGreat
open Go.RowKit
open Go.Lib (hid)
open Dg
namespace Zn
end Zn
end Go.Proofs.YtjmbkipbmbnhjaaGreat
