/-
  
-/
import Derived.Test.YtbaihklbefhgdaaGreatSC24
import Derived.Lib.Strings
import Derived.Lib.Slices
import Derived.Lib.Small
import Derived.Lib.Walk
import Derived.Lib.BitFns
set_option linter.unusedVariables false
set_option linter.unusedSimpArgs false
set_option linter.unusedSectionVars false
namespace Go.Proofs.YtbaihklbefhgdaaGreat
open Go.RowKit
open Go.Lib (hid)
open Dg
namespace Zn
structure StI (w0:World) (l:List (Nat × Obj)) (ns:List (Value × List Nat)) (g k:Nat) (z:Int) (L:Nat->Bool) (w:World):Prop where
 below:Below w0.heap.size w0 w
 heaps:∀ p∈l,w.heap[p.1]?=some p.2
 nums:∀ p∈ns,aL w p.1 p.2
 cell:L k=true->cY w g z
 res:bW w g
theorem uM (a b:Nat):(bA (a:Int) (b:Int)==0)=decide (a=b):=by
 rw[Bool.eq_iff_iff,beq_iff_eq,decide_eq_true_eq];unfold bA;constructor
 ·intro h;split at h
  ·cases h
  ·split at h
   ·cases h
   ·omega
 ·rintro rfl;rw[if_neg (by omega),if_neg (by omega)]
end Zn
end Go.Proofs.YtbaihklbefhgdaaGreat
