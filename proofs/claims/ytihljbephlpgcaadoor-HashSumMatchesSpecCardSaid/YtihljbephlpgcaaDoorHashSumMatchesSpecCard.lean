/- For every byte sequence the law HashSumMatchesSpec returns true and changes nothing; condition: the two tables of round constants lie as the program lays them. -/
import Derived.Test.YtihljbephlpgcaaDoorHashSumMatchesSpecProof
import Derived.Test.YtihljbephlpgcaaDoorTie
import Derived.Test.YtihljbephlpgcaaDoorCards
import Derived.SevenTiedAt
namespace Go.Proofs.YtihljbephlpgcaaDoor
open Go

theorem hashSumMatchesSpec_card : Rows.HashSumMatchesSpecCardSaid :=
  Claim7.holds_tied_plain_at .later [] [.data, .data] true (true, "0dd90470bcfc09eeb8e56b6b8041690b05bc71eefbf44c1971ec0e0a8785d202") false
    hashSumMatchesSpec_holds (fun _ h => by cases h) (by kernel_rfl) (fun _ h => by cases h) hashSumMatchesSpec_row_tie rfl ⟨rfl, rfl⟩ (by kernel_rfl) rfl
    (fun f fn hf hfn => by
      obtain rfl : f = 3 := Option.some.inj ((show Tryd.prog.funcNamed "gantry/gantrylaw02.HashSumMatchesSpec" = some 3 by kernel_rfl).symm.trans hf) |>.symm
      obtain rfl : fn = Tryd.f3 := (Option.some.inj (Tryd.func3.symm.trans hfn)).symm
      exact ⟨by kernel_rfl, fun j t ht => by
        rw [Tryd.params3] at ht
        have hm : t ∈ [22] := by simpa using Array.mem_of_getElem? ht
        have hall : ([22].all fun u => !Tryd.prog.wantsStandIn u) = true := by kernel_rfl
        exact (show Tryd.prog.wantsStandIn t = false by simpa using List.all_eq_true.1 hall t hm)⟩)
    (by kernel_rfl)
#print axioms hashSumMatchesSpec_card
end Go.Proofs.YtihljbephlpgcaaDoor
