/-
  
-/
import Derived.Test.YtbaihklbefhgdaaGreatSC44
import Derived.OpenShut
import Derived.ProofKit
set_option linter.unusedVariables false
set_option linter.unusedSimpArgs false
set_option linter.unusedSectionVars false
namespace Go.Proofs.YtbaihklbefhgdaaGreat
open Go.ChangeShapes Go.WideShapes Go.ChangeAt Go.RowKit
theorem uT {w:World} {a:Option Addr} {len cap:Nat} {zs:List Int}
  (h:(a=none/\len=0/\cap=0/\zs=[])\/∃ x,a=some x/\len<=cap/\cap<=maxLen/\zs.length=cap/\(∀ i,i<zs.length->w.cell? (x.add i)=some (.int .i64 (zs.getD i 0)))/\∀ n∈zs,(Lit.int .i64 n).wf=true) :
  ∃ bs:List Int,Zn.aGm w (.slice a len cap) bs:=by
 rcases h with ⟨rfl,rfl,rfl,rfl⟩ | ⟨x,rfl,hl,hm,hz,hc,hw⟩
 ·exact⟨[],fun _ h=>by simp at h,none,0,rfl,Nat.le_refl _,by decide,fun h=>absurd h (by simp)⟩
 ·have hlen:(zs.take len).length=len:=by simp; omega
  refine⟨zs.take len,fun z hz=>bounds_i64 (hw z (List.mem_of_mem_take hz)),some x,cap,by rw[hlen],by omega,hm,fun hne=>?_⟩;obtain⟨b,off,rfl,hcell⟩:=ints_at hc (by omega);refine⟨b,off,rfl,fun i hi=>?_⟩;rw[hcell i (by omega)];simp only[List.getD_eq_getElem?_getD,List.getElem?_take];rw[if_pos (by omega)]
end Go.Proofs.YtbaihklbefhgdaaGreat
