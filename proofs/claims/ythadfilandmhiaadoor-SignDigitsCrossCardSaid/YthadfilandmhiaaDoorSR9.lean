/-
  Short forms of the steps.
  Ways of a condition that meet again.
-/
import Derived.Test.YthadfilandmhiaaDoorSR7
set_option linter.unusedVariables false
set_option linter.unusedSimpArgs false
set_option linter.unusedSectionVars false
namespace Go.Proofs.YthadfilandmhiaaDoor
open Go.RowKit
namespace Vc
section
variable {D : Type} [Dom D] {P : Program} {cx : Cx D} {n : Nat} {o : Oper} {ops : Array Oper} {rest : List Oper} {done : List (Stp (XV D))} {l : Sg D} {K : Sg D → Prop} {draw : Bool} {rd : List Key} {q r s t : Key} {x y z u : XV D}
theorem p1 (h : OpOk P cx n (lookD .no l) o rd [(q, x)]) (k : RV .no (CC cx n) P ops draw rest (⟨rd, [(q, x)]⟩ :: done) ((q, x) :: l) K) (hg : o.guard = none := by exact rfl) : RV .no (CC cx n) P ops draw (o :: rest) done l K := RV.step1 (OpOk.plain h hg) k
theorem p2 (h : OpOk P cx n (lookD .no l) o rd [(q, x), (r, y)]) (k : RV .no (CC cx n) P ops draw rest (⟨rd, [(q, x), (r, y)]⟩ :: done) ((q, x) :: (r, y) :: l) K) (hg : o.guard = none := by exact rfl) : RV .no (CC cx n) P ops draw (o :: rest) done l K := RV.step2 (OpOk.plain h hg) k
theorem sr {y : Code} {id : Nat} {os : List Oper} {K : Exit → Sg D → Prop} (hm : P.follows .mixedOrders = true) (h : RV .no (CC cx n) P os.toArray false os [] l (ThenK (fun l' => CV P cx n y l' K) K .normal)) : CV P cx n (.seq (.region id os.toArray false) y) l K := CV.seq (CV.region hm (fun h => nomatch h) h)
end
theorem CV.seqJ {D : Type} [Dom D] {P : Program} {cx : Cx D} {n : Nat} {x y : Code} {l l' : Sg D} {K : Exit → Sg D → Prop} (h : CV P cx n x l (ThenK (fun l1 => Sub l1 l') K)) (h2 : CV P cx n y l' K) : CV P cx n (.seq x y) l K :=
  CV.seq (h.mono fun e l1 h3 => by
    cases e with
    | normal => exact CV.sub h3 h2
    | _ => exact h3)
end Vc
end Go.Proofs.YthadfilandmhiaaDoor
