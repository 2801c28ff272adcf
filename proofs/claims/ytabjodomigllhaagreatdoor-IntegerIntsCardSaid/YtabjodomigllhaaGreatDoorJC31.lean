/-
  From a contract to a walk of a law.
-/
import Derived.Test.YtabjodomigllhaaGreatDoorJC9
import Derived.Test.YtabjodomigllhaaGreatDoorJC26
namespace Go.Proofs.YtabjodomigllhaaGreatDoor
open Go.RowKit
open Dg Zn
namespace Vc

theorem noInt_none (w : World) : NoInt (fun _ => False) w := fun _ h => h.elim
theorem ints_is {w : World} {v : Value} {l : List Int} (h : ListI w v l) : (SA.d (Dm.ints l)).is (fun _ => False) id w v := by
  intro w' hag
  obtain ⟨h0, ao, cap, h1, h2, h3, h4⟩ := h
  refine ⟨h0, ao, cap, h1, h2, h3, fun hl => ?_⟩
  obtain ⟨b, off, h5, h6⟩ := h4 hl
  exact ⟨b, off, h5, fun i hi => cell_agree (noInt_none w) hag (h6 i hi)⟩
theorem Con.walk {P : Program} {f : FuncId} {args : List (SA Dm)} {b : Bool} (hcon : Con P f args (.one (.v (.bool b)))) {w : World} (hT : Tab w) {vs : List Value} (h : isAll (fun _ => False) id w args vs) : Calls P f vs.toArray w (RetB w b) := by
  refine (hcon (fun _ => False) id w vs (fun _ h => h.elim) (noInt_none w) hT h).mono ?_
  rintro e w' ⟨v, rfl, h1, h2⟩
  exact ⟨congrArg Ending.returned h2, h1⟩

end Vc
end Go.Proofs.YtabjodomigllhaaGreatDoor
