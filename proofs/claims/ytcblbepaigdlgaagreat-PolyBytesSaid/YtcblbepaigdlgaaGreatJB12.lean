/-
  Short forms of the steps.
-/
import Derived.Test.YtcblbepaigdlgaaGreatJB9
set_option linter.unusedVariables false
set_option linter.unusedSimpArgs false
set_option linter.unusedSectionVars false
namespace Go.Proofs.YtcblbepaigdlgaaGreat
open Go.RowKit
namespace Vc
theorem bd {d n : Nat} (h : Nat.blt d n = true := by exact rfl) : d < n := by rwa [Nat.blt_eq] at h
section
variable {D : Type} [Dom D] {P : Program} {cx : Cx D} {n : Nat} {o : Oper} {ops : Array Oper} {rest : List Oper} {done : List (Stp (XV D))} {l : Sg D} {K : Sg D → Prop} {draw : Bool} {rd : List Key} {q r s t : Key} {x y z u : XV D}
theorem p1 (h : OpOk P cx n (lookD .no l) o rd [(q, x)]) (k : RV .no (CC cx n) P ops draw rest (⟨rd, [(q, x)]⟩ :: done) ((q, x) :: l) K) (hg : o.guard = none := by exact rfl) : RV .no (CC cx n) P ops draw (o :: rest) done l K := RV.step1 (OpOk.plain h hg) k
theorem p2 (h : OpOk P cx n (lookD .no l) o rd [(q, x), (r, y)]) (k : RV .no (CC cx n) P ops draw rest (⟨rd, [(q, x), (r, y)]⟩ :: done) ((q, x) :: (r, y) :: l) K) (hg : o.guard = none := by exact rfl) : RV .no (CC cx n) P ops draw (o :: rest) done l K := RV.step2 (OpOk.plain h hg) k
theorem ml {d : Nat} {x : Operand} {av : AV D} (ho : o.op = .move x) (hd : o.dst = some d) (hn : d < n) (hx : opd (lookD .no l) x = .av av) (k : RV .no (CC cx n) P ops draw rest (⟨opk x, [(.s d, .av av)]⟩ :: done) ((.s d, .av av) :: l) K) (hg : o.guard = none := by exact rfl) : RV .no (CC cx n) P ops draw (o :: rest) done l K := RV.step1 (OpOk.plain (ok_move (.inl ho) hd hn hx) hg) k
theorem mr {d : Nat} {x : Operand} {av : AV D} (ho : o.op = .assign x) (hd : o.dst = some d) (hn : d < n) (hx : opd (lookD .no l) x = .av av) (k : RV .no (CC cx n) P ops draw rest (⟨opk x, [(.s d, .av av)]⟩ :: done) ((.s d, .av av) :: l) K) (hg : o.guard = none := by exact rfl) : RV .no (CC cx n) P ops draw (o :: rest) done l K := RV.step1 (OpOk.plain (ok_move (.inr ho) hd hn hx) hg) k
theorem xm {d : Nat} {x : Operand} {av : AV D} (k : RV .no (CC cx n) P ops draw rest (⟨opk x, [(.s d, .av av)]⟩ :: done) ((.s d, .av av) :: l) K) (ho : o.op = .move x := by exact rfl) (hd : o.dst = some d := by exact rfl) (hn : Nat.blt d n = true := by exact rfl) (hx : opd (lookD .no l) x = .av av := by exact rfl) (hg : o.guard = none := by exact rfl) : RV .no (CC cx n) P ops draw (o :: rest) done l K := ml ho hd (bd hn) hx k hg
theorem xn {d : Nat} {x : Operand} {av : AV D} (k : RV .no (CC cx n) P ops draw rest (⟨opk x, [(.s d, .av av)]⟩ :: done) ((.s d, .av av) :: l) K) (ho : o.op = .assign x := by exact rfl) (hd : o.dst = some d := by exact rfl) (hn : Nat.blt d n = true := by exact rfl) (hx : opd (lookD .no l) x = .av av := by exact rfl) (hg : o.guard = none := by exact rfl) : RV .no (CC cx n) P ops draw (o :: rest) done l K := mr ho hd (bd hn) hx k hg
theorem xa {σ : St D} {x : Operand} {s : SA D} (h : opd σ x = .av (.one s)) (hp : s.ptrs = [] := by exact rfl) : ArgsOk σ [x] [s] := .cons h (Conv.any hp) .nil
theorem xb {σ : St D} {x y : Operand} {s t : SA D} (h : opd σ x = .av (.one s)) (k : opd σ y = .av (.one t)) (hp : s.ptrs = [] := by exact rfl) (hq : t.ptrs = [] := by exact rfl) : ArgsOk σ [x, y] [s, t] := .cons h (Conv.any hp) (xa k hq)
theorem xc {d f : Nat} {fn : Func} {args : Array Operand} {tys : Array TypeId} {sas : List (SA D)} {r : AV D} (hcon : Con P f sas r) (hf : P.funcs[f]? = some fn) (ha : ArgsOk (lookD .no l) args.toList sas) (hfr : cx.fr = false) (k : RV .no (CC cx n) P ops draw rest (⟨KP :: args.toList.flatMap opk, [(.s d, .av r)]⟩ :: done) ((.s d, .av r) :: l) K) (ho : o.op = .call ⟨.value (.func f), args, tys⟩ := by exact rfl) (hd : o.dst = some d := by exact rfl) (hn : Nat.blt d n = true := by exact rfl) (hname : (fn.name == "runtime.NumGoroutine") = false := by exact rfl) (hb : fn.body.isSome = true := by exact rfl) (hr : r.ptrs = [] := by exact rfl) (hKP : npL (lookD .no l KP) = [] := by exact rfl) (hg : o.guard = none := by exact rfl) : RV .no (CC cx n) P ops draw (o :: rest) done l K := p1 (ok_call hcon ho hd (bd hn) hf hname hb ha hr hfr hKP) k hg
theorem sr {y : Code} {id : Nat} {os : List Oper} {K : Exit → Sg D → Prop} (hm : P.follows .mixedOrders = true) (h : RV .no (CC cx n) P os.toArray false os [] l (ThenK (fun l' => CV P cx n y l' K) K .normal)) : CV P cx n (.seq (.region id os.toArray false) y) l K := CV.seq (CV.region hm (fun h => nomatch h) h)
end
end Vc
end Go.Proofs.YtcblbepaigdlgaaGreat
