/- For all ints whose results are ints, Add, Sub, Mul, Compare and Div of package integer agree with the operations of the language; the package variables that the translation lists hold what the program text lays. -/
import Derived.Test.YtelfpefcjchjbaaDoorIntegerGoProof
import Derived.Test.YtelfpefcjchjbaaDoorTie
import Derived.Test.YtelfpefcjchjbaaDoorCards
import Derived.SevenTiedAt
namespace Go.Proofs.YtelfpefcjchjbaaDoor
open Go

theorem integerGo_card : Rows.IntegerGoCardSaid :=
  Claim7.holds_tied_plain_at .later [] [.data, .data, .data, .sentinel, .sentinel] true (true, "a7d49e901da803e3f6b5e114ee8d2e0420b2a141d82f77df317de6da6b8b5694") true
    integerGo_holds (fun _ h => by cases h) (by kernel_rfl) (fun _ h => by cases h) integerGo_row_tie rfl ⟨rfl, rfl⟩ (by kernel_rfl) rfl
    (fun f fn hf hfn => by
      obtain rfl : f = 4 := Option.some.inj ((show Tryd.prog.funcNamed "gantry/gantrylaw04.IntegerGo" = some 4 by kernel_rfl).symm.trans hf) |>.symm
      obtain rfl : fn = Tryd.f4 := (Option.some.inj (Tryd.func4.symm.trans hfn)).symm
      exact ⟨by kernel_rfl, fun j t ht => by
        rw [Tryd.params4] at ht
        have hm : t ∈ [3, 3, 3] := by simpa using Array.mem_of_getElem? ht
        have hall : ([3, 3, 3].all fun u => !Tryd.prog.wantsStandIn u) = true := by kernel_rfl
        exact (show Tryd.prog.wantsStandIn t = false by simpa using List.all_eq_true.1 hall t hm)⟩)
    (by kernel_rfl)
#print axioms integerGo_card
end Go.Proofs.YtelfpefcjchjbaaDoor
