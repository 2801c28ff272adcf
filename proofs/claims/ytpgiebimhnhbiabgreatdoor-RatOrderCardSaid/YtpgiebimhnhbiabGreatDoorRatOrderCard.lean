/- RatOrder holds: Compare of package rat is the order of the numbers, and Floor and Ceil enclose -/
import Derived.Test.YtpgiebimhnhbiabGreatDoorRatOrderProof
import Derived.Test.YtpgiebimhnhbiabGreatDoorTie
import Derived.Test.YtpgiebimhnhbiabGreatDoorCards
import Derived.SevenTiedAt
namespace Go.Proofs.YtpgiebimhnhbiabGreatDoor
open Go

theorem ratOrder_card : Rows.RatOrderCardSaid :=
  Claim7.holds_tied_plain_at .later [] [.data, .data, .data, .sentinel, .sentinel] true (true, "fb20c6213b8a607b2619dbc8a71d2e362bb10927fc327b6fd200a8d56fb3dcba") true
    ratOrder_holds (fun _ h => by cases h) (by kernel_rfl) (fun _ h => by cases h) ratOrder_row_tie rfl ⟨rfl, rfl⟩ (by kernel_rfl) rfl
    (fun f fn hf hfn => by
      obtain rfl : f = 4 := Option.some.inj ((show Tryz.prog.funcNamed "gantry/gantrylaw05.RatOrder" = some 4 by kernel_rfl).symm.trans hf) |>.symm
      obtain rfl : fn = Tryz.f4 := (Option.some.inj (Tryz.func4.symm.trans hfn)).symm
      exact ⟨by kernel_rfl, fun j t ht => by
        rw [Tryz.params4] at ht
        have hm : t ∈ [22, 22, 22] := by simpa using Array.mem_of_getElem? ht
        have hall : ([22, 22, 22].all fun u => !Tryz.prog.wantsStandIn u) = true := by kernel_rfl
        exact (show Tryz.prog.wantsStandIn t = false by simpa using List.all_eq_true.1 hall t hm)⟩)
    (by kernel_rfl)
#print axioms ratOrder_card
end Go.Proofs.YtpgiebimhnhbiabGreatDoor
