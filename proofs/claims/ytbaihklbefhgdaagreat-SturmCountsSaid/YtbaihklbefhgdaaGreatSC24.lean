/-
  
-/
import Derived.Test.YtbaihklbefhgdaaGreatSC22
import Derived.RegionTactic
import Derived.ChangeAlike
import Derived.BigRegion
set_option linter.unusedVariables false
set_option linter.unusedSimpArgs false
set_option linter.unusedSectionVars false
namespace Go.Proofs.YtbaihklbefhgdaaGreat
open Go.RowKit
open Go.Lib (hid)
open Dg
namespace Zn
def yH (a:List Nat) (d:Nat) (w:World) (k r:Nat) (wr:World):Prop :=
 ∃ zs,zs.length=a.length/\aP zs/\eL wr w.heap.size zs/\Below w.heap.size w wr/\wr.heap.size=w.heap.size+1/\r<d /\
  d*val (zs.drop k)+r=val (a.drop k)
theorem yH.cell {a:List Nat} {d:Nat} {w wr:World} {k r:Nat} (h:yH a d w (k+1) r wr) (hk:k<a.length) (hd:d<1000000000) (hda:aP a) :
  (∃ v,wr.cell? ⟨w.heap.size,k,none⟩=some v)/\wr.frozen? ⟨w.heap.size,k,none⟩=false/\Below w.heap.size w wr/\r<d /\
  ∀ p,p=r*1000000000+a.getD k 0->∀ w2,w2.heap=(wr.setCell ⟨w.heap.size,k,none⟩ (.int .i64 ((p/d:Nat):Int))).heap->Below w.heap.size w w2->yH a d w k (p%d) w2:=by
 obtain⟨zs,h1,h2,h3,h4,h5,h6,h7⟩:=h;have ha9:=hda.getD k;refine⟨⟨_,h3.cell (by omega)⟩,mW h3 k,h4,h6,fun p hp w2 hw hb=>?_⟩;have hq:p/d<1000000000:=by
  rw[Nat.div_lt_iff_lt_mul (by omega)];have:(r+1)*1000000000<=d*1000000000:=Nat.mul_le_mul_right _ (by omega);rw[Nat.mul_comm 1000000000 d];omega
 refine⟨zs.set k (p/d),by simpa using h1,h2.set _ _ hq,?_,hb,?_,Nat.mod_lt _ (by omega),?_⟩
 ·have:=h3.store k _ (p/d) rfl;unfold eL bX at this |-;rw[hw];exact this
 ·rw[hw];simpa using h5
 ·have e1:val ((zs.set k (p/d)).drop k)=p/d+1000000000*val (zs.drop (k+1)):=by
   rw[sA (by simp; omega)];congr 1
   ·simp
   ·congr 2;rw[List.drop_set_of_lt (by omega)]
  have e2:val (a.drop k)=a.getD k 0+1000000000*val (a.drop (k+1)):=by
   rw[sA hk];congr 1;simp[List.getD_eq_getElem?_getD,hk]
  rw[e1,e2,<- h7];have hdm:=Nat.div_add_mod p d;rw[Nat.mul_add,Nat.mul_add,Nat.mul_left_comm d 1000000000];generalize 1000000000*(d*val (zs.drop (k+1)))=X;generalize d*(p/d)=Y at *;omega
set_option maxRecDepth 100000 in
set_option maxHeartbeats 4000000 in
theorem aPq (va:Value) (a:List Nat) (d:Nat) (w:World) (ha:aL w va a) (hda:aP a) (hd0:0<d) (hd:d<1000000000) (hla:a.length<=1099511627776) :
  Calls Tryz.prog 232 #[va,.int .i64 (d:Int)] w (vH w (val a/d) (val a%d)):=by
 obtain⟨i0,hi,hz0,hz1,hz2⟩:=info_parts kR;obtain⟨ao,ac,rfl,a1,a2,a3⟩:=ha;have HA:=hid a3;clear a3;unfold maxLen at a2;have hdz:((d:Int)==0)=false:=by rw[beq_eq_false_iff_ne]; omega
 go_enter Tryz.func232,Tryz.ntmps232
 go_wp2_with (at_make; refine oX rfl (.tmp 11) (.tmp 11) rfl i0 hi hz0 hz1 hz2 fN _ _ a.length rfl rfl (by omega) (by omega) (by omega) ?_)
 intro w1 hrow hbel hsz;have HC:=hid (show yH a d w a.length 0 w1 from ⟨_,by simp,aP.replicate _,eL.made hrow,hbel,hsz,hd0,by rw[List.drop_eq_nil_of_le (by simp),List.drop_length]; simp[val]⟩);clear hrow hbel hsz;go_wp2
 go_loopw [7,8] (fun r i wr=>∃ k r':Nat,k<=a.length/\i=.int .i64 ((k:Int)-1)/\r=.int .i64 r'/\yH a d w k r' wr) (fun _ i _=>(intOf i+1).toNat)
 case atStart=>exact⟨a.length,0,by omega,rfl,rfl,HC.out⟩
 case round =>
  obtain⟨k,r,hk,rfl,rfl,hrel⟩:=hrel;have HR:=hid hrel;clear hrel;rcases Nat.eq_zero_or_pos k with h0 | h0
  ·subst h0;obtain⟨zs,h1,h2,h3,h4,h5,h6,h7⟩:=HR.out;rw[List.drop_zero,List.drop_zero] at h7;have hqz:val zs=val a/d:=by
    rw[<- h7,Nat.add_comm,Nat.add_mul_div_left _ _ hd0,Nat.div_eq_of_lt h6,Nat.zero_add]
   have hrz:r=val a%d:=by
    rw[<- h7,Nat.add_comm,Nat.add_mul_mod_self_left,Nat.mod_eq_of_lt h6]
   have HN0:=hid (show aL wr (.slice (some ⟨w.heap.size,0,none⟩) a.length a.length) zs by rw[<- h1]; exact h3.nums _ (Nat.le_refl _) (by unfold maxLen; omega));have HQ:=hid hqz;have HRZ:=hid hrz;have HB4:=hid h4;have hr64:(r:Int)<=1000000000:=by omega
   have HSP:=hid (fun w1=>tM r w1 (by omega));clear h1 h3 h4 h5 h7 hqz hrz
   go_wp2_with fail
   refine(uA _ zs _ HN0.out).mono ?_;rintro e w' ⟨v',rfl,rfl,hn⟩;have hn2:=hn _ HN0.out;rw[<- nB h2,HQ.out] at hn2;have HV:=hid hn2;clear hn hn2
   go_wp2_with fail
   refine(HSP.out _).mono ?_;rintro e w5 ⟨v5,rfl,hn5,hb5⟩;rw[HRZ.out] at hn5;have HV5:=hid hn5;have HV2:=hid (HV.out.keep hb5);have HB5:=hid (Pu.aO HB4.out hb5);clear hn5 hb5;go_wp2;go_ret2;exact⟨v',v5,rfl,HV2.out,HV5.out,HB5.out⟩
  ·obtain⟨j,rfl⟩:∃ j,k=j+1:=⟨k-1,by omega⟩
   obtain⟨⟨v0,hc⟩,hfz,hbl,hrd,hnext⟩:=HR.out.cell (by omega) hd hda;obtain⟨b,off,rfl,hac⟩:=HA.out (by omega);have hca:=keepCell hbl (hac j (by omega));obtain⟨x,hx⟩:∃ x,x=a.getD j 0:=⟨_,rfl⟩
   have hx9:x<1000000000:=by rw[hx]; exact hda.getD j
   rw[<- hx] at hca hnext;have HN:=hid hnext;have HBL:=hid hbl;have e1:((j+1:Nat):Int)-1=(j:Int):=by omega
   rw[e1];clear hac hx hnext hbl e1;obtain⟨p,hp⟩:∃ p,p=r*1000000000+x:=⟨_,rfl⟩
   have ep:(r:Int)*1000000000+(x:Int)=((p:Nat):Int):=by omega
   have hpb:p<=1000000000000000000:=by omega
   have eq1:((r:Int)*1000000000+(x:Int))/(d:Int)=((p/d:Nat):Int):=by rw[ep,Int.natCast_ediv]
   have eq2:((r:Int)*1000000000+(x:Int))%(d:Int)=((p%d:Nat):Int):=by rw[ep,Int.natCast_emod]
   have HE1:=hid eq1;have HE2:=hid eq2;have HP:=hid hp;clear ep eq1 eq2 hp;go_wp2
   go_region
   rw[HE1.out];rw[HE2.out];have HS:=hid (HN.out p HP.out ((wr.setCell ⟨w.heap.size,j,none⟩ (.int .i64 ((p/d:Nat):Int))).drew) rfl ((HBL.out.setCell (by simp) _).drew));generalize (wr.setCell ⟨w.heap.size,j,none⟩ (.int .i64 ((p/d:Nat):Int))).drew=w5 at *;go_wp2
   go_roundw
   case rel=>exact⟨j,p%d,by omega,by go_num,rfl,HS.out⟩
   case measure=>simp[intOf]
end Zn
end Go.Proofs.YtbaihklbefhgdaaGreat
