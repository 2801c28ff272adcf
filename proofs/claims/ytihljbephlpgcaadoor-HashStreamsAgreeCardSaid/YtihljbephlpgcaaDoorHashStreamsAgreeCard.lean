/- For all pieces, every other text and every number the law HashStreamsAgree returns true and changes nothing; condition: the two tables of round constants lie as the program lays them. -/
import Derived.Test.YtihljbephlpgcaaDoorHashStreamsAgreeProof
import Derived.Test.YtihljbephlpgcaaDoorTie
import Derived.Test.YtihljbephlpgcaaDoorCards
import Derived.SevenTiedAt
namespace Go.Proofs.YtihljbephlpgcaaDoor
open Go

theorem hashStreamsAgree_card : Rows.HashStreamsAgreeCardSaid :=
  Claim7.holds_tied_plain_at .later [] [.data, .data] true (true, "0dd90470bcfc09eeb8e56b6b8041690b05bc71eefbf44c1971ec0e0a8785d202") false
    hashStreamsAgree_holds (fun _ h => by cases h) (by kernel_rfl) (fun _ h => by cases h) hashStreamsAgree_row_tie rfl ⟨rfl, rfl⟩ (by kernel_rfl) rfl
    (fun f fn hf hfn => by
      obtain rfl : f = 4 := Option.some.inj ((show Tryd.prog.funcNamed "gantry/gantrylaw02.HashStreamsAgree" = some 4 by kernel_rfl).symm.trans hf) |>.symm
      obtain rfl : fn = Tryd.f4 := (Option.some.inj (Tryd.func4.symm.trans hfn)).symm
      exact ⟨by kernel_rfl, fun j t ht => by
        rw [Tryd.params4] at ht
        have hm : t ∈ [27, 9, 5] := by simpa using Array.mem_of_getElem? ht
        have hall : ([27, 9, 5].all fun u => !Tryd.prog.wantsStandIn u) = true := by kernel_rfl
        exact (show Tryd.prog.wantsStandIn t = false by simpa using List.all_eq_true.1 hall t hm)⟩)
    (by kernel_rfl)
#print axioms hashStreamsAgree_card
end Go.Proofs.YtihljbephlpgcaaDoor
