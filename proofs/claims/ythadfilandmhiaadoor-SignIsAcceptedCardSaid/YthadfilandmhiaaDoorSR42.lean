/-
  Contracts of gantry/gantryref01: GetInt.
-/
import Derived.Test.YthadfilandmhiaaDoorSR34
import Derived.Test.YthadfilandmhiaaDoorSR3
import Derived.Deep.RegionWith
set_option linter.unusedVariables false
set_option linter.unusedSimpArgs false
set_option linter.unusedSectionVars false
namespace Go.Proofs.YthadfilandmhiaaDoor
open Go.RowKit
open Go.Lib (hid)
open W
/-- Behind a function that decodes and makes memory. -/
def RTrip (w : World) (r : Int × Nat × Int) (e : Ending) (w' : World) : Prop := e = .returned (.tuple #[.int .i64 r.1, .int .i64 r.2.1, .int .i64 r.2.2]) ∧ Below w.heap.size w w'

theorem RTrip.mk {w w' : World} {r : Int × Nat × Int} {a b c : Int} (h : r = (a, b.toNat, c)) (hb : 0 ≤ b) (hw : Below w.heap.size w w') : RTrip w r (.returned (.tuple #[.int .i64 a, .int .i64 b, .int .i64 c])) w' := by
  subst h
  refine ⟨?_, hw⟩
  show _ = Ending.returned (.tuple #[.int .i64 a, .int .i64 ((b.toNat : Nat) : Int), .int .i64 c])
  rw [show ((b.toNat : Nat) : Int) = b by omega]
end Go.Proofs.YthadfilandmhiaaDoor
