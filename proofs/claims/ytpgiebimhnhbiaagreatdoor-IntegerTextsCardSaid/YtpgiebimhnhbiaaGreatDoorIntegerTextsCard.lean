/- IntegerTexts holds: for all integers, texts and bytes, Text, Parse, Encode and Decode of package integer answer as the reference does, and lead back -/
import Derived.Test.YtpgiebimhnhbiaaGreatDoorIntegerTextsProof
import Derived.Test.YtpgiebimhnhbiaaGreatDoorTie
import Derived.Test.YtpgiebimhnhbiaaGreatDoorCards
import Derived.SevenTiedAt
namespace Go.Proofs.YtpgiebimhnhbiaaGreatDoor
open Go

theorem integerTexts_card : Rows.IntegerTextsCardSaid :=
  Claim7.holds_tied_plain_at .later [] [.data, .data, .data, .sentinel, .sentinel] true (true, "8b402b3e526b92cfa4bc944b449d1d1965fcf88992b154a0aa79620c10f75ab3") true
    integerTexts_holds (fun _ h => by cases h) (by kernel_rfl) (fun _ h => by cases h) integerTexts_row_tie rfl ⟨rfl, rfl⟩ (by kernel_rfl) rfl
    (fun f fn hf hfn => by
      obtain rfl : f = 3 := Option.some.inj ((show Tryz.prog.funcNamed "gantry/gantrylaw04.IntegerTexts" = some 3 by kernel_rfl).symm.trans hf) |>.symm
      obtain rfl : fn = Tryz.f3 := (Option.some.inj (Tryz.func3.symm.trans hfn)).symm
      exact ⟨by kernel_rfl, fun j t ht => by
        rw [Tryz.params3] at ht
        have hm : t ∈ [22, 9, 23, 3, 5] := by simpa using Array.mem_of_getElem? ht
        have hall : ([22, 9, 23, 3, 5].all fun u => !Tryz.prog.wantsStandIn u) = true := by kernel_rfl
        exact (show Tryz.prog.wantsStandIn t = false by simpa using List.all_eq_true.1 hall t hm)⟩)
    (by kernel_rfl)
#print axioms integerTexts_card
end Go.Proofs.YtpgiebimhnhbiaaGreatDoor
