/- RatBetween holds: Between of package rat answers as the reference does, and no number with a lesser denominator lies in the interval -/
import Derived.Test.YtpgiebimhnhbiaaGreatDoorRatBetweenProof
import Derived.Test.YtpgiebimhnhbiaaGreatDoorTie
import Derived.Test.YtpgiebimhnhbiaaGreatDoorCards
import Derived.SevenTiedAt
namespace Go.Proofs.YtpgiebimhnhbiaaGreatDoor
open Go

theorem ratBetween_card : Rows.RatBetweenCardSaid :=
  Claim7.holds_tied_plain_at .later [] [.data, .data, .data, .sentinel, .sentinel] true (true, "8b402b3e526b92cfa4bc944b449d1d1965fcf88992b154a0aa79620c10f75ab3") true
    ratBetween_holds (fun _ h => by cases h) (by kernel_rfl) (fun _ h => by cases h) ratBetween_row_tie rfl ⟨rfl, rfl⟩ (by kernel_rfl) rfl
    (fun f fn hf hfn => by
      obtain rfl : f = 7 := Option.some.inj ((show Tryz.prog.funcNamed "gantry/gantrylaw05.RatBetween" = some 7 by kernel_rfl).symm.trans hf) |>.symm
      obtain rfl : fn = Tryz.f7 := (Option.some.inj (Tryz.func7.symm.trans hfn)).symm
      exact ⟨by kernel_rfl, fun j t ht => by
        rw [Tryz.params7] at ht
        have hm : t ∈ [22, 22] := by simpa using Array.mem_of_getElem? ht
        have hall : ([22, 22].all fun u => !Tryz.prog.wantsStandIn u) = true := by kernel_rfl
        exact (show Tryz.prog.wantsStandIn t = false by simpa using List.all_eq_true.1 hall t hm)⟩)
    (by kernel_rfl)
#print axioms ratBetween_card
end Go.Proofs.YtpgiebimhnhbiaaGreatDoor
