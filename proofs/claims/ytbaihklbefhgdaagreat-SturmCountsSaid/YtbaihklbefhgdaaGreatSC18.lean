/-
  
-/
import Derived.Test.YtbaihklbefhgdaaGreatProg
import Derived.Lib.Bytealg
set_option linter.unusedVariables false
set_option linter.unusedSimpArgs false
set_option linter.unusedSectionVars false

