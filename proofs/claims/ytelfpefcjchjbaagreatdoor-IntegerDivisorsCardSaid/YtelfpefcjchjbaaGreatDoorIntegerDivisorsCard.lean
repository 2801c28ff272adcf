/- For all integers, the quotient times the divisor and the rest are the dividend, and the rest is from 0 to less than the divisor; Gcd divides both, leaves nothing in common, and is that of the divisor and the rest; the package variables that the translation lists hold what the program text lays. -/
import Derived.Test.YtelfpefcjchjbaaGreatDoorIntegerDivisorsProof
import Derived.Test.YtelfpefcjchjbaaGreatDoorTie
import Derived.Test.YtelfpefcjchjbaaGreatDoorCards
import Derived.SevenTiedAt
namespace Go.Proofs.YtelfpefcjchjbaaGreatDoor
open Go

theorem integerDivisors_card : Rows.IntegerDivisorsCardSaid :=
  Claim7.holds_tied_plain_at .later [] [.data, .data, .data, .sentinel, .sentinel] true (true, "5b8149fcf4c195a3808b642fcd466d9e46982dc49bece4d5bbd0ba3fcf458cbd") true
    integerDivisors_holds (fun _ h => by cases h) (by kernel_rfl) (fun _ h => by cases h) integerDivisors_row_tie rfl ⟨rfl, rfl⟩ (by kernel_rfl) rfl
    (fun f fn hf hfn => by
      obtain rfl : f = 8 := Option.some.inj ((show Tryz.prog.funcNamed "gantry/gantrylaw04.IntegerDivisors" = some 8 by kernel_rfl).symm.trans hf) |>.symm
      obtain rfl : fn = Tryz.f8 := (Option.some.inj (Tryz.func8.symm.trans hfn)).symm
      exact ⟨by kernel_rfl, fun j t ht => by
        rw [Tryz.params8] at ht
        have hm : t ∈ [22, 22, 22] := by simpa using Array.mem_of_getElem? ht
        have hall : ([22, 22, 22].all fun u => !Tryz.prog.wantsStandIn u) = true := by kernel_rfl
        exact (show Tryz.prog.wantsStandIn t = false by simpa using List.all_eq_true.1 hall t hm)⟩)
    (by kernel_rfl)
#print axioms integerDivisors_card
end Go.Proofs.YtelfpefcjchjbaaGreatDoor
