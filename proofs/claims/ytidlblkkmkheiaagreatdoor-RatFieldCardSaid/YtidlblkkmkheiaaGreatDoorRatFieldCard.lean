/- For all lists RatField answers true. -/
import Derived.Test.YtidlblkkmkheiaaGreatDoorRatFieldProof
import Derived.Test.YtidlblkkmkheiaaGreatDoorTie
import Derived.Test.YtidlblkkmkheiaaGreatDoorCards
import Derived.SevenTiedAt
namespace Go.Proofs.YtidlblkkmkheiaaGreatDoor
open Go

theorem ratField_card : Rows.RatFieldCardSaid :=
  Claim7.holds_tied_plain_at .later [] [.data, .data, .data, .sentinel, .sentinel] true (true, "167189821e833c08b20b5fd725be3b5989188c10b690732067f04bc8a293f0bb") true
    ratField_holds (fun _ h => by cases h) (by kernel_rfl) (fun _ h => by cases h) ratField_row_tie rfl ⟨rfl, rfl⟩ (by kernel_rfl) rfl
    (fun f fn hf hfn => by
      obtain rfl : f = 9 := Option.some.inj ((show Tryz.prog.funcNamed "gantry/gantrylaw05.RatField" = some 9 by kernel_rfl).symm.trans hf) |>.symm
      obtain rfl : fn = Tryz.f9 := (Option.some.inj (Tryz.func9.symm.trans hfn)).symm
      exact ⟨by kernel_rfl, fun j t ht => by
        rw [Tryz.params9] at ht
        have hm : t ∈ [22, 22, 22] := by simpa using Array.mem_of_getElem? ht
        have hall : ([22, 22, 22].all fun u => !Tryz.prog.wantsStandIn u) = true := by kernel_rfl
        exact (show Tryz.prog.wantsStandIn t = false by simpa using List.all_eq_true.1 hall t hm)⟩)
    (by kernel_rfl)
#print axioms ratField_card
end Go.Proofs.YtidlblkkmkheiaaGreatDoor
