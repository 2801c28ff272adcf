/-
  
-/
import Derived.RangeFuncNested
import Derived.RangeFuncBound
import Derived.RangeFuncCalls
import Derived.RangeFuncLeaves
import Derived.RangeFuncBox
import Derived.Shelf.Abstract
import Derived.Shelf.RegionOpen
import Derived.WalkKit
import Derived.OwnWalkIn
import Derived.TacticsInMore
import Derived.LoopNIn
import Derived.LoopIn
import Derived.Test.YtbaihklbefhgdaaGreatSC40
set_option linter.unusedVariables false
set_option linter.unusedSimpArgs false
set_option linter.unusedSectionVars false
namespace Go.Proofs.YtbaihklbefhgdaaGreat
open Go.RowKit Go.Shelf
open Dg Zn
namespace Vc
attribute [local go_sem] Oper.semAt_some
def lZ {α:Type} (f:Nat->α) (k:Nat):List α:=(List.range k).map f
theorem aEf {α:Type} (f:Nat->α) (k:Nat):lZ f (k+1)=lZ f k++[f k]:=by simp[lZ,List.range_succ]
theorem aIc {α:Type} (f:Nat->α) (k:Nat):(lZ f k).length=k:=by simp[lZ]
set_option maxRecDepth 100000 in
set_option maxHeartbeats 2000000 in
theorem aWj (F:Fence) (n:Nat) (hF:F.fn 227) (hro:F.round=none) (hn:1<=n) (l Bs b off len cap:Nat) (ao:Option Addr) (hao:0<len->ao=some ⟨b,off,none⟩) (Kp:World->World->Prop) (hKt:∀ {A B C:World},Kp A B->Kp B C->Kp A C) (C:Nat->Nat->Value) (hreach:len<=1000000) {α:Type} (nx:Nat->α) (encs:α->Array Value) (he:∀ k,k<len->encs (nx k)=#[.int .i64 ((len-1-k:Nat):Int),.agg #[C (len-1-k) 0,C (len-1-k) 1,C (len-1-k) 2,C (len-1-k) 3]]) (J Jx:List α->World->Prop)
  (hY:∀ pre x W,J pre W->pre.length<len->YieldAt F (n-1) Tryz.prog l (encs x) W fun e W' =>
   (e=.returned (.bool true)/\J (pre++[x]) W'/\Kp W W')\/(e=.returned (.bool false)/\Jx (pre++[x]) W'))
  (W:World) (hKr:Kp W W) (hBs:∀ wr,Kp W wr->wr.cell? ⟨Bs,0,none⟩=some (.slice ao len cap)) (hc:∀ wr,Kp W wr->∀ j,j<len->wr.cell? ⟨b,off+j*4,none⟩=some (C j 0)/\wr.cell? ⟨b,off+j*4+1,none⟩=some (C j 1)/\wr.cell? ⟨b,off+j*4+2,none⟩=some (C j 2)/\wr.cell? ⟨b,off+j*4+3,none⟩=some (C j 3)) (h0:J [] W) :
  CallsIn F n Tryz.prog 227 #[.func (.yield l) #[] #[],.pointer (some ⟨Bs,0,none⟩)] W fun e W'=>(∃ v,e=.returned v) /\
   ((∃ ys,ys=lZ nx len/\J ys W')\/(∃ pre,(∃ k,k<=len/\pre=lZ nx k)/\Jx pre W')):=by
 have aE:=aNd;have zE:=zC;refine callsIn_of_wp Tryz.func227 rfl hF ?_ hro;simp only[Tryz.ntmps227,List.size_toArray,List.length_cons,List.length_nil,Nat.reduceAdd,Nat.reduceSub,Array.replicate_succ,Array.replicate_zero,List.push_toArray,List.append_toArray,List.nil_append,List.cons_append];have hBs0:=hBs W hKr
 gi_wp2
 gi_loopw [3] (fun i wr=>∃ (k:Nat) (z:Int),k<=len/\i=.int .i64 z/\z=(len:Int)-1-k/\J (lZ nx k) wr/\Kp W wr)
  (fun i _=>(intOf i+1).toNat)
 case atStart=>exact⟨0,(len:Int)-1,Nat.zero_le _,by simp,by omega,h0,hKr⟩
 case round =>
  obtain⟨k,z,hk,rfl,hz,hJs,hnx⟩:=hrel;have hBw:=hBs wr hnx;by_cases hlt:k<len
  ·obtain rfl:=hao (by omega);obtain⟨i,hi⟩:∃ i:Nat,i=len-1-k:=⟨_,rfl⟩
   obtain rfl:z=(i:Int):=by omega
   have hil:i<len:=by omega
   obtain⟨fn,tmps,assign,body,hy,hR⟩:=hY _ (nx k) wr hJs (by rw[aIc]; exact hlt);rw[he k hlt,<- hi] at hy;obtain⟨hc0,hc1,hc2,hc3⟩:=hc wr hnx i hil;replace hi:Hid (i=len-1-k):=hi;replace hz:Hid ((i:Int)=(len:Int)-1-k):=hz;clear hc hBs he hY
   gi_wp2
   refine hR.mono ?_;rintro e W3 (⟨rfl,hJ3,hk3⟩ | ⟨rfl,hJx3⟩)
   ·gi_wp2
    go_roundw
    case rel=>exact⟨k+1,(i:Int)-1,by omega,by simp,by have:=hz; unfold Hid at this; omega,by rw[aEf]; exact hJ3,hKt hnx hk3⟩
    case measure=>simp[intOf]
   ·gi_wp2
    refine bodyPost_ret (results_none rfl _ _ _) rfl ?_;exact⟨⟨_,rfl⟩,.inr ⟨_,⟨k+1,by omega,(aEf _ _).symm⟩,hJx3⟩⟩
  ·obtain rfl:k=len:=by omega
   obtain rfl:z = -1:=by omega
   gi_wp2
   go_end0
   exact⟨⟨_,rfl⟩,.inl ⟨_,rfl,hJs⟩⟩
set_option maxHeartbeats 1000000 in
theorem aYj (F:Fence) (n:Nat) (hF:F.fn 205) (hro:F.round=none) (a:Option Addr) (len cap:Nat) (w:World) :
  CallsIn F n Tryz.prog 205 #[.slice a len cap] w fun e w'=>e=.returned (.func (.func 227) #[] #[.pointer (some ⟨w.heap.size,0,none⟩)])/\w'=w.alloc (.cells #[.slice a len cap] 24):=by
 refine callsIn_of_wp Tryz.func205 rfl hF ?_ hro;simp only[Tryz.ntmps205,List.size_toArray,List.length_cons,List.length_nil,Nat.reduceAdd,Nat.reduceSub,Array.replicate_succ,Array.replicate_zero,List.push_toArray,List.append_toArray,List.nil_append,List.cons_append]
 gi_wp2
 go_ret
 exact⟨rfl,rfl⟩
end Vc
end Go.Proofs.YtbaihklbefhgdaaGreat
