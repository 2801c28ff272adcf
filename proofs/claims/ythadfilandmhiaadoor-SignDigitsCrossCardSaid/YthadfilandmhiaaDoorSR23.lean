/-
  The bytes of a string, laid in new memory; keys of a code.
-/
import Derived.Test.YthadfilandmhiaaDoorSR20
import Derived.Lib.ConvBytes
set_option linter.unusedVariables false
set_option linter.unusedSimpArgs false
set_option linter.unusedSectionVars false
namespace Go.Proofs.YthadfilandmhiaaDoor
open Go.RowKit
open Go.Lib (hid)
open S
theorem macN_length (l t : List Nat) : (macN l t).length = 32 := sha_length _
end Go.Proofs.YthadfilandmhiaaDoor
