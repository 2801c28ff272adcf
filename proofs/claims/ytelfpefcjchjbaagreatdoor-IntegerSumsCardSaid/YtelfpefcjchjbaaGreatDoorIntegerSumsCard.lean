/- For all integers, Add, Sub, Mul, Neg, Compare and Sign of package integer return what the reference model does, and the arguments stay as they are; the package variables that the translation lists hold what the program text lays. -/
import Derived.Test.YtelfpefcjchjbaaGreatDoorIntegerSumsProof
import Derived.Test.YtelfpefcjchjbaaGreatDoorTie
import Derived.Test.YtelfpefcjchjbaaGreatDoorCards
import Derived.SevenTiedAt
namespace Go.Proofs.YtelfpefcjchjbaaGreatDoor
open Go

theorem integerSums_card : Rows.IntegerSumsCardSaid :=
  Claim7.holds_tied_plain_at .later [] [.data, .data, .data, .sentinel, .sentinel] true (true, "5b8149fcf4c195a3808b642fcd466d9e46982dc49bece4d5bbd0ba3fcf458cbd") true
    integerSums_holds (fun _ h => by cases h) (by kernel_rfl) (fun _ h => by cases h) integerSums_row_tie rfl ⟨rfl, rfl⟩ (by kernel_rfl) rfl
    (fun f fn hf hfn => by
      obtain rfl : f = 4 := Option.some.inj ((show Tryz.prog.funcNamed "gantry/gantrylaw04.IntegerSums" = some 4 by kernel_rfl).symm.trans hf) |>.symm
      obtain rfl : fn = Tryz.f4 := (Option.some.inj (Tryz.func4.symm.trans hfn)).symm
      exact ⟨by kernel_rfl, fun j t ht => by
        rw [Tryz.params4] at ht
        have hm : t ∈ [22, 22] := by simpa using Array.mem_of_getElem? ht
        have hall : ([22, 22].all fun u => !Tryz.prog.wantsStandIn u) = true := by kernel_rfl
        exact (show Tryz.prog.wantsStandIn t = false by simpa using List.all_eq_true.1 hall t hm)⟩)
    (by kernel_rfl)
#print axioms integerSums_card
end Go.Proofs.YtelfpefcjchjbaaGreatDoor
