/- For all ints and integers, Of and Small return what the reference model does; for any digits, Valid reports what it does. -/
import Derived.Test.YtabjodomigllhaaGreatDoorIntegerIntsProof
import Derived.Test.YtabjodomigllhaaGreatDoorTie
import Derived.Test.YtabjodomigllhaaGreatDoorCards
import Derived.SevenTiedAt
namespace Go.Proofs.YtabjodomigllhaaGreatDoor
open Go

theorem integerInts_card : Rows.IntegerIntsCardSaid :=
  Claim7.holds_tied_plain_at .later [] [.data, .data, .data, .sentinel, .sentinel] true (true, "ebaecb5f5e3c07b7e605593f4c023f30c6ead2b00f9ba0e2dd5fe49a215820f9") true
    integerInts_holds (fun _ h => by cases h) (by kernel_rfl) (fun _ h => by cases h) integerInts_row_tie rfl ⟨rfl, rfl⟩ (by kernel_rfl) rfl
    (fun f fn hf hfn => by
      obtain rfl : f = 3 := Option.some.inj ((show Tryz.prog.funcNamed "gantry/gantrylaw04.IntegerInts" = some 3 by kernel_rfl).symm.trans hf) |>.symm
      obtain rfl : fn = Tryz.f3 := (Option.some.inj (Tryz.func3.symm.trans hfn)).symm
      exact ⟨by kernel_rfl, fun j t ht => by
        rw [Tryz.params3] at ht
        have hm : t ∈ [3, 22, 22, 4, 3] := by simpa using Array.mem_of_getElem? ht
        have hall : ([3, 22, 22, 4, 3].all fun u => !Tryz.prog.wantsStandIn u) = true := by kernel_rfl
        exact (show Tryz.prog.wantsStandIn t = false by simpa using List.all_eq_true.1 hall t hm)⟩)
    (by kernel_rfl)
#print axioms integerInts_card
end Go.Proofs.YtabjodomigllhaaGreatDoor
