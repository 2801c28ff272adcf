/- Different digests: a digit less, another greater. -/
import Derived.Test.YthadfilandmhiaaDoorSignDigitsCrossProof
import Derived.Test.YthadfilandmhiaaDoorTie
import Derived.Test.YthadfilandmhiaaDoorCards
import Derived.SevenTiedAt
namespace Go.Proofs.YthadfilandmhiaaDoor
open Go

theorem signDigitsCross_card : Rows.SignDigitsCrossCardSaid :=
  Claim7.holds_tied_plain_at .later [] [.data] true (true, "bff7fcd2e651d752e7afa25692debb552e315651a2f0fc8fa9ac043313a16242") false
    signDigitsCross_holds (fun _ h => by cases h) (by kernel_rfl) (fun _ h => by cases h) signDigitsCross_row_tie rfl ⟨rfl, rfl⟩ (by kernel_rfl) rfl
    (fun f fn hf hfn => by
      obtain rfl : f = 7 := Option.some.inj ((show Tryd.prog.funcNamed "gantry/gantrylaw03.SignDigitsCross" = some 7 by kernel_rfl).symm.trans hf) |>.symm
      obtain rfl : fn = Tryd.f7 := (Option.some.inj (Tryd.func7.symm.trans hfn)).symm
      exact ⟨by kernel_rfl, fun j t ht => by
        rw [Tryd.params7] at ht
        have hm : t ∈ [23, 23] := by simpa using Array.mem_of_getElem? ht
        have hall : ([23, 23].all fun u => !Tryd.prog.wantsStandIn u) = true := by kernel_rfl
        exact (show Tryd.prog.wantsStandIn t = false by simpa using List.all_eq_true.1 hall t hm)⟩)
    (by kernel_rfl)
#print axioms signDigitsCross_card
end Go.Proofs.YthadfilandmhiaaDoor
