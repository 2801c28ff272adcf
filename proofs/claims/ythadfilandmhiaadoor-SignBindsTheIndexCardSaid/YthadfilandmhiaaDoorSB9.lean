/-
  Short forms of the steps.
  Ways of a condition that meet again.
-/
import Derived.Test.YthadfilandmhiaaDoorSB7
set_option linter.unusedVariables false
set_option linter.unusedSimpArgs false
set_option linter.unusedSectionVars false
namespace Go.Proofs.YthadfilandmhiaaDoor
open Go.RowKit
namespace Vc
section
variable {D : Type} [Dom D] {P : Program} {cx : Cx D} {n : Nat} {o : Oper} {ops : Array Oper} {rest : List Oper} {done : List (Stp (XV D))} {l : Sg D} {K : Sg D → Prop} {draw : Bool} {rd : List Key} {q r s t : Key} {x y z u : XV D}
theorem p1 (h : OpOk P cx n (lookD .no l) o rd [(q, x)]) (k : RV .no (CC cx n) P ops draw rest (⟨rd, [(q, x)]⟩ :: done) ((q, x) :: l) K) (hg : o.guard = none := by exact rfl) : RV .no (CC cx n) P ops draw (o :: rest) done l K := RV.step1 (OpOk.plain h hg) k
theorem p2 (h : OpOk P cx n (lookD .no l) o rd [(q, x), (r, y)]) (k : RV .no (CC cx n) P ops draw rest (⟨rd, [(q, x), (r, y)]⟩ :: done) ((q, x) :: (r, y) :: l) K) (hg : o.guard = none := by exact rfl) : RV .no (CC cx n) P ops draw (o :: rest) done l K := RV.step2 (OpOk.plain h hg) k
theorem ml {d : Nat} {x : Operand} {av : AV D} (ho : o.op = .move x) (hd : o.dst = some d) (hn : d < n) (hx : opd (lookD .no l) x = .av av) (k : RV .no (CC cx n) P ops draw rest (⟨opk x, [(.s d, .av av)]⟩ :: done) ((.s d, .av av) :: l) K) (hg : o.guard = none := by exact rfl) : RV .no (CC cx n) P ops draw (o :: rest) done l K := RV.step1 (OpOk.plain (ok_move (.inl ho) hd hn hx) hg) k
theorem sr {y : Code} {id : Nat} {os : List Oper} {K : Exit → Sg D → Prop} (hm : P.follows .mixedOrders = true) (h : RV .no (CC cx n) P os.toArray false os [] l (ThenK (fun l' => CV P cx n y l' K) K .normal)) : CV P cx n (.seq (.region id os.toArray false) y) l K := CV.seq (CV.region hm (fun h => nomatch h) h)
end
end Vc
end Go.Proofs.YthadfilandmhiaaDoor
