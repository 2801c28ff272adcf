/-
  Contracts of gantry/gantryref02: Few, Joined.
-/
import Derived.Test.YthadfilandmhiaaDoorSR27
import Derived.Test.YthadfilandmhiaaDoorSR23
set_option linter.unusedVariables false
set_option linter.unusedSimpArgs false
set_option linter.unusedSectionVars false
namespace Go.Proofs.YthadfilandmhiaaDoor
open Go.RowKit
open Go.Lib (hid)
open S
def FewP (ss : List ByteArray) : Prop := ss.length ≤ 12 ∧ ∀ s ∈ ss, s.size ≤ 2000
instance (ss : List ByteArray) : Decidable (FewP ss) := by unfold FewP; infer_instance
end Go.Proofs.YthadfilandmhiaaDoor
