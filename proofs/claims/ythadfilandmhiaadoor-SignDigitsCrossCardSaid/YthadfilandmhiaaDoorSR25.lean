/-
  gantry/hash.Equal.
-/
import Derived.Test.YthadfilandmhiaaDoorSR18
import Derived.Laws.BitsAllLaws
import Derived.Deep.RegionHeld3
set_option linter.unusedVariables false
set_option linter.unusedSimpArgs false
set_option linter.unusedSectionVars false
namespace Go.Proofs.YthadfilandmhiaaDoor
open Go.RowKit
open Go.Lib (hid)
open S
theorem foldl_lt (l : List (Nat × Nat)) (d : Nat) (hd : d < 256) (h : ∀ p ∈ l, p.1 < 256 ∧ p.2 < 256) : l.foldl (fun d p => d ||| (p.1 ^^^ p.2)) d < 256 := by
  induction l generalizing d with
  | nil => exact hd
  | cons p l ih =>
    have hp := h p (List.mem_cons_self ..)
    exact ih _ (Nat.or_lt_two_pow (n := 8) hd (Nat.xor_lt_two_pow (n := 8) hp.1 hp.2)) fun q hq => h q (List.mem_cons_of_mem _ hq)
end Go.Proofs.YthadfilandmhiaaDoor
