/-
  
-/
import Derived.Test.YtbaihklbefhgdaaGreatSC10
set_option linter.unusedVariables false
set_option linter.unusedSimpArgs false
set_option linter.unusedSectionVars false
namespace Go.Proofs.YtbaihklbefhgdaaGreat
open Go.RowKit
namespace Vc
section
variable {D:Type} [bO D] {P:Program} {cx:Cx D} {n:Nat} {o:Oper} {ops:Array Oper} {rest:List Oper} {done:List (Stp (XV D))} {l:Sg D} {K:Sg D->Prop} {draw:Bool} {rd:List Key} {q r s t:Key} {x y z u:XV D}
theorem p1 (h:aN P cx n (aF .no l) o rd [(q,x)]) (k:RV .no (CC cx n) P ops draw rest (⟨rd,[(q,x)]⟩::done) ((q,x)::l) K) (hg:o.guard=none:=by exact rfl):RV .no (CC cx n) P ops draw (o::rest) done l K:=gJ (aN.plain h hg) k
theorem p2 (h:aN P cx n (aF .no l) o rd [(q,x),(r,y)]) (k:RV .no (CC cx n) P ops draw rest (⟨rd,[(q,x),(r,y)]⟩::done) ((q,x)::(r,y)::l) K) (hg:o.guard=none:=by exact rfl):RV .no (CC cx n) P ops draw (o::rest) done l K:=aLx (aN.plain h hg) k
theorem ml {d:Nat} {x:Operand} {av:AV D} (ho:o.op=.move x) (hd:o.dst=some d) (hn:d<n) (hx:opd (aF .no l) x=.av av) (k:RV .no (CC cx n) P ops draw rest (⟨bH x,[(.s d,.av av)]⟩::done) ((.s d,.av av)::l) K) (hg:o.guard=none:=by exact rfl):RV .no (CC cx n) P ops draw (o::rest) done l K:=gJ (aN.plain (cB (.inl ho) hd hn hx) hg) k
theorem mr {d:Nat} {x:Operand} {av:AV D} (ho:o.op=.assign x) (hd:o.dst=some d) (hn:d<n) (hx:opd (aF .no l) x=.av av) (k:RV .no (CC cx n) P ops draw rest (⟨bH x,[(.s d,.av av)]⟩::done) ((.s d,.av av)::l) K) (hg:o.guard=none:=by exact rfl):RV .no (CC cx n) P ops draw (o::rest) done l K:=gJ (aN.plain (cB (.inr ho) hd hn hx) hg) k
theorem xm {d:Nat} {x:Operand} {av:AV D} (k:RV .no (CC cx n) P ops draw rest (⟨bH x,[(.s d,.av av)]⟩::done) ((.s d,.av av)::l) K) (ho:o.op=.move x:=by exact rfl) (hd:o.dst=some d:=by exact rfl) (hn:Nat.blt d n=true:=by exact rfl) (hx:opd (aF .no l) x=.av av:=by exact rfl) (hg:o.guard=none:=by exact rfl):RV .no (CC cx n) P ops draw (o::rest) done l K:=ml ho hd (bd hn) hx k hg
theorem xn {d:Nat} {x:Operand} {av:AV D} (k:RV .no (CC cx n) P ops draw rest (⟨bH x,[(.s d,.av av)]⟩::done) ((.s d,.av av)::l) K) (ho:o.op=.assign x:=by exact rfl) (hd:o.dst=some d:=by exact rfl) (hn:Nat.blt d n=true:=by exact rfl) (hx:opd (aF .no l) x=.av av:=by exact rfl) (hg:o.guard=none:=by exact rfl):RV .no (CC cx n) P ops draw (o::rest) done l K:=mr ho hd (bd hn) hx k hg
theorem xa {σ:St D} {x:Operand} {s:SA D} (h:opd σ x=.av (.one s)) (hp:s.ptrs=[]:=by exact rfl):dY σ [x] [s]:=.cons h (cT.any hp) .nil
theorem xb {σ:St D} {x y:Operand} {s t:SA D} (h:opd σ x=.av (.one s)) (k:opd σ y=.av (.one t)) (hp:s.ptrs=[]:=by exact rfl) (hq:t.ptrs=[]:=by exact rfl):dY σ [x,y] [s,t]:=.cons h (cT.any hp) (xa k hq)
theorem xc {d f : Nat} {fn : Func} {args : Array Operand} {tys : Array TypeId} {sas : List (SA D)} {r : AV D} (hcon : aD P f sas r) (hf : P.funcs[f]? = some fn) (ha : dY (aF .no l) args.toList sas) (hfr : cx.fr = false) (k : RV .no (CC cx n) P ops draw rest (⟨KP :: args.toList.flatMap bH, [(.s d, .av r)]⟩ :: done) ((.s d, .av r) :: l) K) (ho : o.op = .call ⟨.value (.func f), args, tys⟩ := by exact rfl) (hd : o.dst = some d := by exact rfl) (hn : Nat.blt d n = true := by exact rfl) (hname : (fn.name == "runtime.NumGoroutine") = false := by exact rfl) (hb : fn.body.isSome = true := by exact rfl) (hr : r.ptrs = [] := by exact rfl) (hKP : bR (aF .no l KP) = [] := by exact rfl) (hg : o.guard = none := by exact rfl) : RV .no (CC cx n) P ops draw (o :: rest) done l K := p1 (cG hcon ho hd (bd hn) hf hname hb ha hr hfr hKP) k hg
theorem xd {d f : Nat} {fn : Func} {args : Array Operand} {tys : Array TypeId} {sas : List (SA D)} {r : AV D} (ho : o.op = .call ⟨.value (.func f), args, tys⟩) (hcon : aD P f sas r) (hf : P.funcs[f]? = some fn) (ha : dY (aF .no l) args.toList sas) (hfr : cx.fr = false) (k : RV .no (CC cx n) P ops draw rest (⟨KP :: args.toList.flatMap bH, [(.s d, .av r)]⟩ :: done) ((.s d, .av r) :: l) K) (hd : o.dst = some d := by exact rfl) (hn : Nat.blt d n = true := by exact rfl) (hname : (fn.name == "runtime.NumGoroutine") = false := by exact rfl) (hb : fn.body.isSome = true := by exact rfl) (hr : r.ptrs = [] := by exact rfl) (hKP : bR (aF .no l KP) = [] := by exact rfl) (hg : o.guard = none := by exact rfl) : RV .no (CC cx n) P ops draw (o :: rest) done l K := xc hcon hf ha hfr k ho hd hn hname hb hr hKP hg
theorem xk {j dj d:Nat} {b b':Bool} (k:RV .no (CC cx n) P ops draw rest (⟨[.s dj],[(.s d,.av (.one (.v undef)))]⟩::done) ((.s d,.av (.one (.v undef)))::l) K) (hg:o.guard=some (j,b):=by exact rfl) (hj:(ops[j]?).bind (·.dst)=some dj:=by exact rfl) (hv:aF .no l (.s dj)=.av (.one (.v (.bool b'))):=by exact rfl) (hb:b' = !b:=by exact rfl) (hd:o.dst=some d:=by exact rfl) (hn:Nat.blt d n=true:=by exact rfl):RV .no (CC cx n) P ops draw (o::rest) done l K:=gJ (aN.skip hg hj hv hb hd (bd hn)) k
theorem y1 {j dj:Nat} {b:Bool} (h:aN P cx n (aF .no l) o rd [(q,x)]) (k:RV .no (CC cx n) P ops draw rest (⟨.s dj::rd,[(q,x)]⟩::done) ((q,x)::l) K) (hg:o.guard=some (j,b):=by exact rfl) (hj:(ops[j]?).bind (·.dst)=some dj:=by exact rfl) (hv:aF .no l (.s dj)=.av (.one (.v (.bool b))):=by exact rfl):RV .no (CC cx n) P ops draw (o::rest) done l K:=gJ (aN.yes h hg hj hv) k
theorem y2 {j dj:Nat} {b:Bool} (h:aN P cx n (aF .no l) o rd [(q,x),(r,y)]) (k:RV .no (CC cx n) P ops draw rest (⟨.s dj::rd,[(q,x),(r,y)]⟩::done) ((q,x)::(r,y)::l) K) (hg:o.guard=some (j,b):=by exact rfl) (hj:(ops[j]?).bind (·.dst)=some dj:=by exact rfl) (hv:aF .no l (.s dj)=.av (.one (.v (.bool b))):=by exact rfl):RV .no (CC cx n) P ops draw (o::rest) done l K:=aLx (aN.yes h hg hj hv) k
theorem sr {y:Code} {id:Nat} {os:List Oper} {K:Exit->Sg D->Prop} (hm:P.follows .mixedOrders=true) (h:RV .no (CC cx n) P os.toArray false os [] l (aBr (fun l'=>CV P cx n y l' K) K .normal)):CV P cx n (.seq (.region id os.toArray false) y) l K:=CV.seq (CV.region hm (fun h=>nomatch h) h)
end
theorem aA3 {D:Type} [bO D] {P:Program} {cx:Cx D} {n:Nat} {x y:Code} {l l':Sg D} {K:Exit->Sg D->Prop} (h:CV P cx n x l (aBr (fun l1=>aZ l1 l') K)) (h2:CV P cx n y l' K):CV P cx n (.seq x y) l K :=
 CV.seq (h.mono fun e l1 h3=>by
  cases e with
  | normal=>exact CV.sub h3 h2
  | _=>exact h3)
end Vc
end Go.Proofs.YtbaihklbefhgdaaGreat
