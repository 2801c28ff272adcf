/-
  
-/
import Derived.Test.YtbaihklbefhgdaaGreatRows
import Derived.Test.YtbaihklbefhgdaaGreatSC4
import Derived.WalkKit
import Derived.WalkSpells
import Derived.WalkLawsBesides
import Derived.Lib.Hide
import Derived.WalkMore
import Derived.Deep.LoopGhost
import Derived.Laws.DeepNot64
set_option linter.unusedVariables false
set_option linter.unusedSimpArgs false
set_option linter.unusedSectionVars false
namespace Go.Proofs.YtbaihklbefhgdaaGreat
open Go.RowKit
open Go.Lib (hid)
open W
end Go.Proofs.YtbaihklbefhgdaaGreat
