/-
  Contracts of gantry/wire: getDigest, get
-/
import Derived.Test.YtcblbepaigdlgaaGreatJB20
import Derived.Deep.MidRow
import Derived.Deep.WholeRow
import Derived.Deep.RegionHeld3
import Derived.Lib.AppendStr
set_option linter.unusedVariables false
set_option linter.unusedSimpArgs false
set_option linter.unusedSectionVars false
namespace Go.Proofs.YtcblbepaigdlgaaGreat
open Go.RowKit
open Go.Lib (hid)
open W
structure Called (w W : World) (g : Nat) (cs : List Value) : Prop where
 below : Below w.heap.size w W
 range : W.rangeAt g 0 cs
 room : W.there w.heap.size 0 cs.length
 lt : w.heap.size < W.heap.size
structure InMem (w wr : World) (E : TypeId) (size : Nat) (fn v : Value) (xs : List Value) (n u : Nat) (out : Value) : Prop where
 c3 : wr.cell? ⟨w.heap.size, 0, none⟩ = some v
 c5 : wr.cell? ⟨w.heap.size + 1, 0, none⟩ = some fn
 c10 : wr.cell? ⟨w.heap.size + 1 + 1, 0, none⟩ = some (.int .i64 u)
 f10 : wr.frozen? ⟨w.heap.size + 1 + 1, 0, none⟩ = false
 own : wr.ownsRow (w.heap.size + 1 + 1 + 1) E size out n xs
 below : Below w.heap.size w wr
 size_ : w.heap.size + 1 + 1 + 1 < wr.heap.size
section
variable {w wr : World} {E T3 T5 T10 : TypeId} {size : Nat} {fn v : Value} {xs : List Value} {n u cap : Nat} {out : Value}
end
end Go.Proofs.YtcblbepaigdlgaaGreat
