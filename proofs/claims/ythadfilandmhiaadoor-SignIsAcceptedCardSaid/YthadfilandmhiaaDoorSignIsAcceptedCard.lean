/- What is signed is accepted. -/
import Derived.Test.YthadfilandmhiaaDoorSignIsAcceptedProof
import Derived.Test.YthadfilandmhiaaDoorTie
import Derived.Test.YthadfilandmhiaaDoorCards
import Derived.SevenTiedAt
namespace Go.Proofs.YthadfilandmhiaaDoor
open Go

theorem signIsAccepted_card : Rows.SignIsAcceptedCardSaid :=
  Claim7.holds_tied_plain_at .later [] [.data] true (true, "bff7fcd2e651d752e7afa25692debb552e315651a2f0fc8fa9ac043313a16242") false
    signIsAccepted_holds (fun _ h => by cases h) (by kernel_rfl) (fun _ h => by cases h) signIsAccepted_row_tie rfl ⟨rfl, rfl⟩ (by kernel_rfl) rfl
    (fun f fn hf hfn => by
      obtain rfl : f = 6 := Option.some.inj ((show Tryd.prog.funcNamed "gantry/gantrylaw03.SignIsAccepted" = some 6 by kernel_rfl).symm.trans hf) |>.symm
      obtain rfl : fn = Tryd.f6 := (Option.some.inj (Tryd.func6.symm.trans hfn)).symm
      exact ⟨by kernel_rfl, fun j t ht => by
        rw [Tryd.params6] at ht
        have hm : t ∈ [5, 5, 5, 9] := by simpa using Array.mem_of_getElem? ht
        have hall : ([5, 5, 5, 9].all fun u => !Tryd.prog.wantsStandIn u) = true := by kernel_rfl
        exact (show Tryd.prog.wantsStandIn t = false by simpa using List.all_eq_true.1 hall t hm)⟩)
    (by kernel_rfl)
#print axioms signIsAccepted_card
end Go.Proofs.YthadfilandmhiaaDoor
