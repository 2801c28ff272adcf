/- For all integers, squares and neighbours of them, Root returns what the reference model does. -/
import Derived.Test.YtabjodomigllhaaGreatDoorIntegerRootsProof
import Derived.Test.YtabjodomigllhaaGreatDoorTie
import Derived.Test.YtabjodomigllhaaGreatDoorCards
import Derived.SevenTiedAt
namespace Go.Proofs.YtabjodomigllhaaGreatDoor
open Go

theorem integerRoots_card : Rows.IntegerRootsCardSaid :=
  Claim7.holds_tied_plain_at .later [] [.data, .data, .data, .sentinel, .sentinel] true (true, "ebaecb5f5e3c07b7e605593f4c023f30c6ead2b00f9ba0e2dd5fe49a215820f9") true
    integerRoots_holds (fun _ h => by cases h) (by kernel_rfl) (fun _ h => by cases h) integerRoots_row_tie rfl ⟨rfl, rfl⟩ (by kernel_rfl) rfl
    (fun f fn hf hfn => by
      obtain rfl : f = 5 := Option.some.inj ((show Tryz.prog.funcNamed "gantry/gantrylaw04.IntegerRoots" = some 5 by kernel_rfl).symm.trans hf) |>.symm
      obtain rfl : fn = Tryz.f5 := (Option.some.inj (Tryz.func5.symm.trans hfn)).symm
      exact ⟨by kernel_rfl, fun j t ht => by
        rw [Tryz.params5] at ht
        have hm : t ∈ [22, 3] := by simpa using Array.mem_of_getElem? ht
        have hall : ([22, 3].all fun u => !Tryz.prog.wantsStandIn u) = true := by kernel_rfl
        exact (show Tryz.prog.wantsStandIn t = false by simpa using List.all_eq_true.1 hall t hm)⟩)
    (by kernel_rfl)
#print axioms integerRoots_card
end Go.Proofs.YtabjodomigllhaaGreatDoor
