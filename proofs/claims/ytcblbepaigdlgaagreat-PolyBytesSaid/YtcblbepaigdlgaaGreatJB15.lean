/-
  Laid contracts that this seat lacks.
-/
import Derived.Test.YtcblbepaigdlgaaGreatProg
import Derived.Shelf.LaysM
import Derived.Shelf.Strconv.Atoi
import Derived.Shelf.Strings.Search1
set_option linter.unusedVariables false
set_option linter.unusedSimpArgs false
set_option linter.unusedSectionVars false

