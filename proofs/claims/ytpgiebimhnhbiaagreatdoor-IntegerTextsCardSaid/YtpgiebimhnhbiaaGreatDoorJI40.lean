/-
  IntegerQuotients: its walk.
  Contracts of gantry/rat: products, quotients, signs, comparison, validity; the reference's numbers.
  The reference's fractions: its numbers; the law's equality.
  Plain facts on fractions: their order, floors and ceilings.
  RatSums and RatOrder: their walks, the examples' contract given.
  Towards layer 5's examples: Valid in general, Between given least.
  Towards layer 5's examples: Text and Parse, given those of the integers.
  find: what least's closure returns.
  least: a closure made and stored where it finds itself.
  Layer 5's examples of Between.
-/
import Derived.Test.YtpgiebimhnhbiaaGreatDoorJI39
import Derived.IntWalk
import Derived.Test.YtpgiebimhnhbiaaGreatDoorJI38
import Derived.Test.YtpgiebimhnhbiaaGreatDoorJI25
import Derived.Test.YtpgiebimhnhbiaaGreatDoorJI26
set_option linter.unusedVariables false
set_option linter.unusedSimpArgs false
set_option linter.unusedSectionVars false
namespace Go.Proofs.YtpgiebimhnhbiaaGreatDoor
open Go.RowKit
open Go.Lib (hid)
open Dg Zn
namespace Vc
theorem wrapI {z : Int} (h1 : -9223372036854775808 ≤ z) (h2 : z ≤ 9223372036854775807) : IntKind.i64.wrap z = z := IntWalk.i64_in _ (by omega)
end Vc
end Go.Proofs.YtpgiebimhnhbiaaGreatDoor

namespace Go.Proofs.YtpgiebimhnhbiaaGreatDoor
open Dg Zn
namespace Vc
end Vc
end Go.Proofs.YtpgiebimhnhbiaaGreatDoor

namespace Go.Proofs.YtpgiebimhnhbiaaGreatDoor
open Go.RowKit
open Go.Lib (hid)
open Dg Zn
namespace Vc
section
variable {P : Program} {cx : Cx Dm} {n : Nat} {σ : St Dm} {o : Oper} {d : Nat} {x y : Operand} {T T' : TypeId} {k : IntKind} {a b : Int}
theorem ok_eqlT (h : a = b) (ho : o.op = .binOp .eql T x y T') (hd : o.dst = some d) (hn : d < n) (hx : opd σ x = .av (.one (.v (.int k a)))) (hy : opd σ y = .av (.one (.v (.int k b)))) : OpOk P cx n σ o (opk x ++ opk y) [(.s d, .av (.one (.v (.bool true))))] := by
 have := ok_eql (P := P) (cx := cx) ho hd hn hx hy
 rwa [h, beq_self_eq_true] at this
theorem ok_neqF (h : a = b) (ho : o.op = .binOp .neq T x y T') (hd : o.dst = some d) (hn : d < n) (hx : opd σ x = .av (.one (.v (.int k a)))) (hy : opd σ y = .av (.one (.v (.int k b)))) : OpOk P cx n σ o (opk x ++ opk y) [(.s d, .av (.one (.v (.bool false))))] := by
 have := ok_neq (P := P) (cx := cx) ho hd hn hx hy
 rwa [h, bne_self_eq_false] at this
end
section
variable {cx : Cx Dm} {n : Nat} {σ : St Dm} {o : Oper} {d t : Nat} {x y : Operand} {T T' : TypeId}
end
set_option linter.unusedSectionVars false

inductive FindOk (B : Nat) : Int → Int → Int → Int → Int → Int → Prop where
 | whole {a b c d : Int} : a % b = 0 → b ≠ 0 → len (a / b) ≤ B → FindOk B a b c d (a / b) 1
 | next {a b c d : Int} : a % b ≠ 0 → b ≠ 0 → d ≠ 0 → a / b < c / d → len (a / b + 1) ≤ B → FindOk B a b c d (a / b + 1) 1
 | step {a b c d q p : Int} : a % b ≠ 0 → b ≠ 0 → d ≠ 0 → ¬ a / b < c / d → FindOk B d (c % d) b (a % b) q p → len (a / b * q + p) ≤ B → len q ≤ B → FindOk B a b c d (a / b * q + p) q

section
variable (a b c d : Int) (j1 j2 j3 j4 B : Nat) (hj1 : j1 ≤ 1000000) (hj2 : j2 ≤ 1000000) (hj3 : j3 ≤ 1000000) (hj4 : j4 ≤ 1000000) (hB1 : 1 ≤ B) (hB : B ≤ 1000000)
include hj1 hj2 hj3 hj4 hB1 hB
end
end Vc
end Go.Proofs.YtpgiebimhnhbiaaGreatDoor

namespace Go.Proofs.YtpgiebimhnhbiaaGreatDoor
open Go.RowKit
open Go.Lib (hid)
open Dg Zn
namespace Vc
end Vc
end Go.Proofs.YtpgiebimhnhbiaaGreatDoor
