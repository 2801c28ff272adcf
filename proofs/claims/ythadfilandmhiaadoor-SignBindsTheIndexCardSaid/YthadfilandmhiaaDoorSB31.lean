/-
  Contracts of gantry/gantryref02: Few, Joined.
-/
import Derived.Test.YthadfilandmhiaaDoorSB27
import Derived.Test.YthadfilandmhiaaDoorSB23
set_option linter.unusedVariables false
set_option linter.unusedSimpArgs false
set_option linter.unusedSectionVars false
namespace Go.Proofs.YthadfilandmhiaaDoor
open Go.RowKit
open Go.Lib (hid)
open S
def FewP (ss : List ByteArray) : Prop := ss.length ≤ 12 ∧ ∀ s ∈ ss, s.size ≤ 2000
instance (ss : List ByteArray) : Decidable (FewP ss) := by unfold FewP; infer_instance
theorem part_at {w : World} {ao : Option Addr} {ss : List ByteArray} (h : Parts w ao ss) {i : Nat} (hi : i < ss.length) : ∃ b off, ao = some ⟨b, off, none⟩ ∧ w.cell? ⟨b, off + i, none⟩ = some (.string ss[i]) := by
  obtain ⟨b, off, rfl, _, hc⟩ := h (by omega)
  exact ⟨b, off, rfl, hc i _ (List.getElem?_eq_getElem hi)⟩
end Go.Proofs.YthadfilandmhiaaDoor
