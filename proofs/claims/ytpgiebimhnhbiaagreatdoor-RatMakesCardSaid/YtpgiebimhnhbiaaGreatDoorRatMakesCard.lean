/- RatMakes holds: Of, Make and Valid of package rat answer as the reference does -/
import Derived.Test.YtpgiebimhnhbiaaGreatDoorRatMakesProof
import Derived.Test.YtpgiebimhnhbiaaGreatDoorTie
import Derived.Test.YtpgiebimhnhbiaaGreatDoorCards
import Derived.SevenTiedAt
namespace Go.Proofs.YtpgiebimhnhbiaaGreatDoor
open Go

theorem ratMakes_card : Rows.RatMakesCardSaid :=
  Claim7.holds_tied_plain_at .later [] [.data, .data, .data, .sentinel, .sentinel] true (true, "8b402b3e526b92cfa4bc944b449d1d1965fcf88992b154a0aa79620c10f75ab3") true
    ratMakes_holds (fun _ h => by cases h) (by kernel_rfl) (fun _ h => by cases h) ratMakes_row_tie rfl ⟨rfl, rfl⟩ (by kernel_rfl) rfl
    (fun f fn hf hfn => by
      obtain rfl : f = 4 := Option.some.inj ((show Tryz.prog.funcNamed "gantry/gantrylaw05.RatMakes" = some 4 by kernel_rfl).symm.trans hf) |>.symm
      obtain rfl : fn = Tryz.f4 := (Option.some.inj (Tryz.func4.symm.trans hfn)).symm
      exact ⟨by kernel_rfl, fun j t ht => by
        rw [Tryz.params4] at ht
        have hm : t ∈ [3, 3, 22, 22, 22, 4] := by simpa using Array.mem_of_getElem? ht
        have hall : ([3, 3, 22, 22, 22, 4].all fun u => !Tryz.prog.wantsStandIn u) = true := by kernel_rfl
        exact (show Tryz.prog.wantsStandIn t = false by simpa using List.all_eq_true.1 hall t hm)⟩)
    (by kernel_rfl)
#print axioms ratMakes_card
end Go.Proofs.YtpgiebimhnhbiaaGreatDoor
