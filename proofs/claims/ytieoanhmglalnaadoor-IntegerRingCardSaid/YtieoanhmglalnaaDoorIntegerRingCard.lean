/- IntegerRing, P4.8. -/
import Derived.Test.YtieoanhmglalnaaDoorIntegerRingProof
import Derived.Test.YtieoanhmglalnaaDoorTie
import Derived.Test.YtieoanhmglalnaaDoorCards
import Derived.SevenTiedAt
namespace Go.Proofs.YtieoanhmglalnaaDoor
open Go

theorem integerRing_card : Rows.IntegerRingCardSaid :=
  Claim7.holds_tied_plain_at .later [] [.data, .data, .data, .sentinel, .sentinel] true (true, "a7d49e901da803e3f6b5e114ee8d2e0420b2a141d82f77df317de6da6b8b5694") true
    integerRing_holds (fun _ h => by cases h) (by kernel_rfl) (fun _ h => by cases h) integerRing_row_tie rfl ⟨rfl, rfl⟩ (by kernel_rfl) rfl
    (fun f fn hf hfn => by
      obtain rfl : f = 3 := Option.some.inj ((show Tryd.prog.funcNamed "gantry/gantrylaw04.IntegerRing" = some 3 by kernel_rfl).symm.trans hf) |>.symm
      obtain rfl : fn = Tryd.f3 := (Option.some.inj (Tryd.func3.symm.trans hfn)).symm
      exact ⟨by kernel_rfl, fun j t ht => by
        rw [Tryd.params3] at ht
        have hm : t ∈ [22, 22, 22] := by simpa using Array.mem_of_getElem? ht
        have hall : ([22, 22, 22].all fun u => !Tryd.prog.wantsStandIn u) = true := by kernel_rfl
        exact (show Tryd.prog.wantsStandIn t = false by simpa using List.all_eq_true.1 hall t hm)⟩)
    (by kernel_rfl)
#print axioms integerRing_card
end Go.Proofs.YtieoanhmglalnaaDoor
