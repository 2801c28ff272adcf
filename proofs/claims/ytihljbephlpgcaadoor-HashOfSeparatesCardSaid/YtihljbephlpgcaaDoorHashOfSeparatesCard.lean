/- For any two tags from 0 to 255 and any two lists of parts the law HashOfSeparates returns true and changes nothing; condition: the round constants lie as the program lays them. -/
import Derived.Test.YtihljbephlpgcaaDoorHashOfSeparatesProof
import Derived.Test.YtihljbephlpgcaaDoorTie
import Derived.Test.YtihljbephlpgcaaDoorCards
import Derived.SevenTiedAt
namespace Go.Proofs.YtihljbephlpgcaaDoor
open Go

theorem hashOfSeparates_card : Rows.HashOfSeparatesCardSaid :=
  Claim7.holds_tied_plain_at .later [] [.data] true (true, "0dd90470bcfc09eeb8e56b6b8041690b05bc71eefbf44c1971ec0e0a8785d202") false
    hashOfSeparates_holds (fun _ h => by cases h) (by kernel_rfl) (fun _ h => by cases h) hashOfSeparates_row_tie rfl ⟨rfl, rfl⟩ (by kernel_rfl) rfl
    (fun f fn hf hfn => by
      obtain rfl : f = 8 := Option.some.inj ((show Tryd.prog.funcNamed "gantry/gantrylaw02.HashOfSeparates" = some 8 by kernel_rfl).symm.trans hf) |>.symm
      obtain rfl : fn = Tryd.f8 := (Option.some.inj (Tryd.func8.symm.trans hfn)).symm
      exact ⟨by kernel_rfl, fun j t ht => by
        rw [Tryd.params8] at ht
        have hm : t ∈ [48, 27, 27] := by simpa using Array.mem_of_getElem? ht
        have hall : ([48, 27, 27].all fun u => !Tryd.prog.wantsStandIn u) = true := by kernel_rfl
        exact (show Tryd.prog.wantsStandIn t = false by simpa using List.all_eq_true.1 hall t hm)⟩)
    (by kernel_rfl)
#print axioms hashOfSeparates_card
end Go.Proofs.YtihljbephlpgcaaDoor
