/-
  
-/
import Derived.Test.YtbaihklbefhgdaaGreatSC19
import Derived.Laws.CopyOwn
import Derived.Laws.CopyRow
set_option linter.unusedVariables false
set_option linter.unusedSimpArgs false
set_option linter.unusedSectionVars false
namespace Go.Proofs.YtbaihklbefhgdaaGreat
open Go.RowKit
open Go.Lib (hid)
open Dg
namespace Zn
theorem aXf {a b:Int} (h:a=b):Ending.returned (.int .u64 a)=.returned (.int .u64 b):=by rw[h]
set_option maxHeartbeats 400000 in
theorem tL (v:Value) (ds:List Nat) (w:World) (hv:aL w v ds) (hd:aP ds) (hlt:val ds<18446744073709551616) :
  Calls Tryz.prog 226 #[v] w fun e w'=>e=.returned (.int .u64 (val ds:Nat))/\w=w':=by
 obtain⟨ao,ac,rfl,a1,a2,a3⟩:=hv;have HA:=hid a3;have HD:=hid hd;have HLT:=hid hlt;clear a3 hd hlt;unfold maxLen at a2
 go_enter Tryz.func226,Tryz.ntmps226
 go_wp2
 go_loopw [3,7] (fun n i wr=>∃ k:Nat,k<=ds.length/\i=.int .i64 k/\n=.int .u64 (val (ds.drop (ds.length-k)):Nat)/\w=wr) (fun _ i _=>ds.length-(intOf i).toNat)
 case atStart=>exact⟨0,Nat.zero_le _,rfl,by rw[Nat.sub_zero,List.drop_length]; rfl,rfl⟩
 case round =>
  obtain⟨k,hk,rfl,rfl,rfl⟩:=hrel;by_cases hkl:k<ds.length
  ·obtain⟨b,off,rfl,hc⟩:=HA.out (by omega);have hcj:=hc (ds.length-1-k) (by omega);obtain⟨d,hdd⟩:∃ d,d=ds.getD (ds.length-1-k) 0:=⟨_,rfl⟩
   rw[<- hdd] at hcj;have hval:val (ds.drop (ds.length-(k+1)))=d+1000000000*val (ds.drop (ds.length-k)):=by
    rw[show ds.length-(k+1)=ds.length-1-k by omega,sA (by omega),show ds.length-1-k+1=ds.length-k by omega,hdd];simp[List.getD_eq_getElem?_getD,List.getElem?_eq_getElem (show ds.length-1-k<ds.length by omega)]
   have hle:val (ds.drop (ds.length-(k+1)))<=val ds:=by
    rw[aDa ds (ds.length-(k+1)) (by omega)];have:=Nat.le_mul_of_pos_left (val (ds.drop (ds.length-(k+1)))) (Nat.pow_pos (n:=ds.length-(k+1)) (show 0<1000000000 by decide));omega
   have hlt:=HLT.out;have hd9:d<1000000000:=by rw[hdd]; exact HD.out.getD _
   obtain⟨V,hV⟩:∃ V,V=val (ds.drop (ds.length-k)):=⟨_,rfl⟩
   rw[<- hV] at hval |-;have hb:1000000000*V+d<=18446744073709551615:=by omega
   have HV:=hid hval;clear hc hval hle hlt hdd hV;go_wp2
   go_roundw
   case rel =>
    refine⟨k+1,by omega,by go_num,?_,trivial⟩;rw[HV.out];congr 1; omega
   case measure=>simp[intOf]; omega
  ·obtain rfl:k=ds.length:=by omega
   go_wp2
   go_ret
   exact⟨aXf (by rw[Nat.sub_self,List.drop_zero]),rfl⟩
def kJ (w:World) (N:Nat) (k q:Nat) (wr:World):Prop :=
 ∃ ds cur,aA N=ds++aA q/\ds.length=k/\wr.heap[w.heap.size]?=some (.cells cur 187 (0,0))/\cur.size=3/\(∀ i,i<k->cur[i]?=some (.int .i64 ((ds.getD i 0:Nat):Int)))/\Below w.heap.size w wr/\wr.heap.size=w.heap.size+1
theorem kJ.cell {w wr:World} {N k q:Nat} (h:kJ w N k q wr) (hk:k<3):(∃ v,wr.cell? ⟨w.heap.size,k,none⟩=some v)/\wr.frozen? ⟨w.heap.size,k,none⟩=false:=by
 obtain⟨ds,cur,_,_,hh,hs,_⟩:=h;refine⟨⟨cur[k]'(by omega),?_⟩,frozen_of_row _ _ _ _ _ hh⟩;rw[cell_of_row _ _ _ _ _ (0,0) hh];simp[hs,hk]
theorem kJ.lt {w wr:World} {N k q:Nat} (h:kJ w N k q wr) (hN:N<18446744073709551616) (hq:q≠0):k<3:=by
 obtain⟨ds,cur,h1,h2,_⟩:=h;have h3:(aA N).length<=3:=fG.2 (by omega);rw[h1,List.length_append] at h3;have:(aA q).length≠0:=by
  intro h;rw[List.length_eq_zero_iff,jF] at h;exact hq h
 omega
theorem kJ.le {w wr:World} {N k q:Nat} (h:kJ w N k q wr) (hN:N<18446744073709551616):k<=3:=by
 obtain⟨ds,cur,h1,h2,_⟩:=h;have h3:(aA N).length<=3:=fG.2 (by omega);rw[h1,List.length_append] at h3;omega
theorem kJ.step {w wr:World} {N k q:Nat} (h:kJ w N k q wr) (hk:k<3) (hq:q≠0):kJ w N (k+1) (q/1000000000) (wr.setCell ⟨w.heap.size,k,none⟩ (.int .i64 ((q:Int)%1000000000))):=by
 obtain⟨ds,cur,h1,h2,h3,h4,h5,h6,h7⟩:=h;refine⟨ds++[q%1000000000],_,?_,by simp[h2],heap_setCell_same _ _ _ _ _ _ h3,by simpa using h4,?_,h6.setCell (by simp) _,by simpa using h7⟩
 ·rw[h1,nC (by omega),List.append_assoc]; rfl
 ·intro i hi;rw[Array.getElem?_setIfInBounds];by_cases e:k=i
  ·subst e;rw[if_pos rfl,if_pos (by omega)];rw[List.getD_eq_getElem?_getD,List.getElem?_append_right (by omega),h2,Nat.sub_self];simp
  ·rw[if_neg e,h5 i (by omega)];rw[List.getD_eq_getElem?_getD,List.getD_eq_getElem?_getD,List.getElem?_append_left (by omega)]
theorem kJ.fin {w wr:World} {N k:Nat} (h:kJ w N k 0 wr):(aA N).length=k/\(∀ i,i<k->wr.cell? ⟨w.heap.size,i,none⟩=some (.int .i64 (((aA N).getD i 0:Nat):Int)))/\Below w.heap.size w wr:=by
 obtain⟨ds,cur,h1,h2,h3,h4,h5,h6,h7⟩:=h;rw[gA,List.append_nil] at h1;rw[h1];refine⟨h2,fun i hi=>?_,h6⟩;rw[cell_of_row _ _ _ _ _ (0,0) h3,h5 i hi]
theorem aP4 {α:Type} (cur cs:List α) (h:cur.length=cs.length):splice cur 0 cs=cs:=by
 unfold splice;rw[List.take_zero,List.nil_append,List.drop_eq_nil_of_le (by omega),List.append_nil]
theorem kJ.start (w:World) (N:Nat):kJ w N 0 N (w.alloc (.cells #[.int .i64 0,.int .i64 0,.int .i64 0] 187)) :=
 ⟨[],_,rfl,rfl,heap_alloc_new w _,rfl,fun i hi=>absurd hi (Nat.not_lt_zero i),(Below.refl _ _).alloc (Nat.le_refl _) _,by simp⟩
set_option maxRecDepth 100000 in
set_option maxHeartbeats 400000 in
theorem tM (N:Nat) (w:World) (hN:N<18446744073709551616) :
  Calls Tryz.prog 202 #[.int .u64 (N:Int)] w (xM w (aA N)):=by
 obtain⟨i0,hi,hz0,hz1,hz2⟩:=info_parts kR;have HR:=hid (kJ.start w N);have HN:=hid hN;have hN1:N<=18446744073709551615:=by omega
 clear hN
 go_enter Tryz.func202,Tryz.ntmps202
 go_wp2
 go_loopw [0,4] (fun n i wr=>∃ k q:Nat,i=.int .i64 k/\n=.int .u64 q/\q<=N/\kJ w N k q wr) (fun n _ _=>(match n with | .int _ x=>x | _=>0).toNat)
 case atStart=>exact⟨0,N,rfl,rfl,Nat.le_refl _,HR.out⟩
 case round =>
  obtain⟨k,q,rfl,rfl,hqN,hroom⟩:=hrel;have HM:=hid hroom;clear hroom;by_cases hq0:q=0
  ·subst hq0;have hk3:=HM.out.le HN.out;clear hqN;rw[show ((0:Nat):Int)=0 from rfl];have HF:=hid HM.out.fin
   go_wp2_with (at_make; refine oX rfl (.tmp 17) (.tmp 17) rfl i0 hi hz0 hz1 hz2 fN _ _ k rfl rfl rfl rfl (by omega) ?_)
   intro w2 hrow hbel hsz;have HRW:=hid (show w2.heap[wr.heap.size]?=some (.cells ((List.replicate k (0:Int)).map (Value.int .i64)).toArray 3 (0,0)) from hrow);have HB:=hid hbel;have HS:=hid hsz;clear hrow hbel hsz
   go_wp2_with (with_reducible refine wpList_copy_splice rfl (.tmp 19) (.tmp 20) 22 22 rfl 3 fN ?c0 _ _ k k 3 3 rfl rfl wr.heap.size 0 ((List.replicate k (0:Int)).map (Value.int .i64)) 3 HRW.out ((aA N).map fun d:Nat=>Value.int .i64 (d:Int)) ?c1 ?c2 ?c3 ?c4 w.heap.size w ?c5 ?c6 ?_)
   case c0=>rw[hi]; simp[hz1]
   case c1 =>
    show _=Nat.min 3 k;rw[List.length_map,HF.out.1];exact(Nat.min_eq_right hk3).symm
   case c2 =>
    intro _ j d hd1;have hjk:j<k:=by rw[<- HF.out.1]; exact(List.getElem?_eq_some_iff.1 hd1).1
    refine keepCell HB.out ((HF.out.2.1 j hjk).trans ?_);rw[List.getD_eq_getElem?_getD,hd1];rfl
   case c3=>simp[HF.out.1]
   case c4 =>
    intro v hv;obtain⟨d,_,rfl⟩:=List.mem_map.1 hv;rfl
   case c5=>exact Pu.aO HF.out.2.2 HB.out
   case c6=>have:=HF.out.2.2.size; omega
   intro w3 hrow3 hbel3;have HB3:=hid hbel3;clear hbel3;go_wp2
   go_ret
   refine⟨_,rfl,?_,HB3.out⟩;have hrow4:bX w3 wr.heap.size ((aA N).map Int.ofNat):=by
    unfold bX;rw[hrow3.out];congr 2;rw[aP4 _ _ (by simp[HF.out.1])];simp
   refine hrow4.nums 0 k k (aA N) HF.out.1 (Nat.le_refl _) (by unfold maxLen; omega) (by simp[HF.out.1]) fun i hi=>?_;rw[Nat.zero_add,getD_map]
  ·have hk3:=HM.out.lt HN.out hq0;obtain⟨⟨v0,hc⟩,hfz⟩:=HM.out.cell hk3;have hq1:q<=18446744073709551615:=by omega
   have HS:=hid (HM.out.step hk3 hq0);go_wp2
   go_roundw
   case rel=>exact⟨k+1,q/1000000000,by go_num,by go_num,by omega,HS.out⟩
   case measure=>simp; omega
end Zn
end Go.Proofs.YtbaihklbefhgdaaGreat
