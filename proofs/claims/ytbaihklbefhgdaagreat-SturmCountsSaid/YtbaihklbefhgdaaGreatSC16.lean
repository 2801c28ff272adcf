/-
  
-/
import Derived.Test.YtbaihklbefhgdaaGreatSC6
import Derived.Test.YtbaihklbefhgdaaGreatSC4
import Derived.Lib.AppendStr
import Derived.BigQuiet
import Derived.Deep.QuietTactic
import Derived.Deep.OwnRows
set_option linter.unusedVariables false
set_option linter.unusedSimpArgs false
set_option linter.unusedSectionVars false
namespace Go.Proofs.YtbaihklbefhgdaaGreat
open Go.RowKit
open Go.Lib (hid)
open W
theorem aO {w a b:World} (h:Below w.heap.size w a) (k:Below a.heap.size a b):Below w.heap.size w b:=h.trans (k.mono h.size)
structure aBz (w:World) (v:Value) (size n:Nat) (cells:List Value):Prop where
 len:cells.length=n*size
 shape:∃ ao cap,v=.slice ao n cap/\n<=cap/\cap<=maxLen/\(0<n->∃ b off,ao=some ⟨b,off,none⟩/\∀ i x,cells[i]?=some x->w.cell? ⟨b,off+i,none⟩=some x)
theorem aBz.of_owns {w:World} {base:Nat} {E:TypeId} {v:Value} {size n:Nat} {cells:List Value} (h:w.ownsRow base E size v n cells):aBz w v size n cells:=by
 refine⟨h.1,?_⟩;rcases h.2 with ⟨rfl,rfl⟩ | ⟨g,cap,cur,rfl,hg,hh,hn,hm,hs,ht⟩
 ·exact⟨none,0,rfl,Nat.le_refl _,by unfold maxLen; omega,fun h=>absurd h (by omega)⟩
 ·refine⟨_,cap,rfl,hn,hm,fun _=>⟨g,0,rfl,fun i x hi=>?_⟩⟩;have:=h.cells (g:=g) rfl i x hi;rwa[Addr.add_lit] at this
end Go.Proofs.YtbaihklbefhgdaaGreat
