/- For all integers, Div and Gcd return what the reference model does, also for products and neighbours of them. -/
import Derived.Test.YtabjodomigllhaaGreatDoorIntegerQuotientsProof
import Derived.Test.YtabjodomigllhaaGreatDoorTie
import Derived.Test.YtabjodomigllhaaGreatDoorCards
import Derived.SevenTiedAt
namespace Go.Proofs.YtabjodomigllhaaGreatDoor
open Go

theorem integerQuotients_card : Rows.IntegerQuotientsCardSaid :=
  Claim7.holds_tied_plain_at .later [] [.data, .data, .data, .sentinel, .sentinel] true (true, "ebaecb5f5e3c07b7e605593f4c023f30c6ead2b00f9ba0e2dd5fe49a215820f9") true
    integerQuotients_holds (fun _ h => by cases h) (by kernel_rfl) (fun _ h => by cases h) integerQuotients_row_tie rfl ⟨rfl, rfl⟩ (by kernel_rfl) rfl
    (fun f fn hf hfn => by
      obtain rfl : f = 4 := Option.some.inj ((show Tryz.prog.funcNamed "gantry/gantrylaw04.IntegerQuotients" = some 4 by kernel_rfl).symm.trans hf) |>.symm
      obtain rfl : fn = Tryz.f4 := (Option.some.inj (Tryz.func4.symm.trans hfn)).symm
      exact ⟨by kernel_rfl, fun j t ht => by
        rw [Tryz.params4] at ht
        have hm : t ∈ [22, 22, 3] := by simpa using Array.mem_of_getElem? ht
        have hall : ([22, 22, 3].all fun u => !Tryz.prog.wantsStandIn u) = true := by kernel_rfl
        exact (show Tryz.prog.wantsStandIn t = false by simpa using List.all_eq_true.1 hall t hm)⟩)
    (by kernel_rfl)
#print axioms integerQuotients_card
end Go.Proofs.YtabjodomigllhaaGreatDoor
