/- RatRounds holds: Floor, Ceil, Whole and Dot of package rat answer as the reference does -/
import Derived.Test.YtpgiebimhnhbiaaGreatDoorRatRoundsProof
import Derived.Test.YtpgiebimhnhbiaaGreatDoorTie
import Derived.Test.YtpgiebimhnhbiaaGreatDoorCards
import Derived.SevenTiedAt
namespace Go.Proofs.YtpgiebimhnhbiaaGreatDoor
open Go

theorem ratRounds_card : Rows.RatRoundsCardSaid :=
  Claim7.holds_tied_plain_at .later [] [.data, .data, .data, .sentinel, .sentinel] true (true, "8b402b3e526b92cfa4bc944b449d1d1965fcf88992b154a0aa79620c10f75ab3") true
    ratRounds_holds (fun _ h => by cases h) (by kernel_rfl) (fun _ h => by cases h) ratRounds_row_tie rfl ⟨rfl, rfl⟩ (by kernel_rfl) rfl
    (fun f fn hf hfn => by
      obtain rfl : f = 6 := Option.some.inj ((show Tryz.prog.funcNamed "gantry/gantrylaw05.RatRounds" = some 6 by kernel_rfl).symm.trans hf) |>.symm
      obtain rfl : fn = Tryz.f6 := (Option.some.inj (Tryz.func6.symm.trans hfn)).symm
      exact ⟨by kernel_rfl, fun j t ht => by
        rw [Tryz.params6] at ht
        have hm : t ∈ [22, 22, 3] := by simpa using Array.mem_of_getElem? ht
        have hall : ([22, 22, 3].all fun u => !Tryz.prog.wantsStandIn u) = true := by kernel_rfl
        exact (show Tryz.prog.wantsStandIn t = false by simpa using List.all_eq_true.1 hall t hm)⟩)
    (by kernel_rfl)
#print axioms ratRounds_card
end Go.Proofs.YtpgiebimhnhbiaaGreatDoor
