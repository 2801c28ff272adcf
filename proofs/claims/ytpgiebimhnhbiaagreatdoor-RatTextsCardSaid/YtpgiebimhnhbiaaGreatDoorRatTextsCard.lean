/- RatTexts holds: for all numbers, texts and bytes, Text, Parse, Encode and Decode of package rat answer as the reference does, and lead back -/
import Derived.Test.YtpgiebimhnhbiaaGreatDoorRatTextsProof
import Derived.Test.YtpgiebimhnhbiaaGreatDoorTie
import Derived.Test.YtpgiebimhnhbiaaGreatDoorCards
import Derived.SevenTiedAt
namespace Go.Proofs.YtpgiebimhnhbiaaGreatDoor
open Go

theorem ratTexts_card : Rows.RatTextsCardSaid :=
  Claim7.holds_tied_plain_at .later [] [.data, .data, .data, .sentinel, .sentinel] true (true, "8b402b3e526b92cfa4bc944b449d1d1965fcf88992b154a0aa79620c10f75ab3") true
    ratTexts_holds (fun _ h => by cases h) (by kernel_rfl) (fun _ h => by cases h) ratTexts_row_tie rfl ⟨rfl, rfl⟩ (by kernel_rfl) rfl
    (fun f fn hf hfn => by
      obtain rfl : f = 8 := Option.some.inj ((show Tryz.prog.funcNamed "gantry/gantrylaw05.RatTexts" = some 8 by kernel_rfl).symm.trans hf) |>.symm
      obtain rfl : fn = Tryz.f8 := (Option.some.inj (Tryz.func8.symm.trans hfn)).symm
      exact ⟨by kernel_rfl, fun j t ht => by
        rw [Tryz.params8] at ht
        have hm : t ∈ [22, 9, 23, 3, 5] := by simpa using Array.mem_of_getElem? ht
        have hall : ([22, 9, 23, 3, 5].all fun u => !Tryz.prog.wantsStandIn u) = true := by kernel_rfl
        exact (show Tryz.prog.wantsStandIn t = false by simpa using List.all_eq_true.1 hall t hm)⟩)
    (by kernel_rfl)
#print axioms ratTexts_card
end Go.Proofs.YtpgiebimhnhbiaaGreatDoor
