/-
  
-/
import Derived.Test.YtbaihklbefhgdaaGreatSC23
import Derived.Test.YtbaihklbefhgdaaGreatSC24
import Derived.Test.YtbaihklbefhgdaaGreatSC1
set_option linter.unusedVariables false
set_option linter.unusedSimpArgs false
set_option linter.unusedSectionVars false
namespace Go.Proofs.YtbaihklbefhgdaaGreat
open Go.RowKit
open Go.Lib (hid)
open Dg
namespace Zn
def sQ (a b:List Nat) (w:World) (h:Nat) (k:Nat) (wr:World):Prop :=
 ∃ rr qs,rr.length=b.length/\aP rr/\val rr<val b/\qs.length=a.length-b.length+1/\aP qs /\
  bX wr w.heap.size ((a.take k++rr++List.replicate (a.length+1-k-b.length) 0).map Int.ofNat)/\eL wr h qs/\w.heap.size<h/\Below w.heap.size w wr /\
  val (a.drop k)=val b*val (qs.drop k)+val rr
def sP (a b:List Nat) (w:World) (h:Nat) (k q:Nat) (t:Int) (wr:World):Prop :=
 ∃ lo qs R,lo.length=b.length/\aP lo/\R<val b/\qs.length=a.length-b.length+1/\aP qs /\
  bX wr w.heap.size ((a.take k).map Int.ofNat++lo.map Int.ofNat++t::(List.replicate (a.length-k-b.length) 0).map Int.ofNat)/\eL wr h qs/\w.heap.size<h/\Below w.heap.size w wr /\
  val (a.drop (k+1))=val b*val (qs.drop (k+1))+R /\
  (val lo:Int)+1000000000^b.length*t=((a.getD k 0+1000000000*R:Nat):Int)-(q:Int)*(val b:Int) /\
  (a.getD k 0+1000000000*R)/val b<=q/\q<=(a.getD k 0+1000000000*R)/val b+1
theorem aLw {w w':World} {g h:Nat} {zs:List Int} (hr:bX w h zs) (hc:iQ g w w') (hne:g<h):bX w' h zs:=(hc.above h hne hr.lt).trans hr
theorem sQ.part {a b:List Nat} {w:World} {g k:Nat} {wr:World} (h:sQ a b w g (k+1) wr) (hk:k+1<=a.length-b.length+1) (hb2:2<=b.length) (hab:b.length<=a.length) (hda:aP a) :
  ∃ (lo:List Nat) (t:Nat),lo.length=b.length/\aP lo/\t<1000000000/\Below w.heap.size w wr /\
   bX wr w.heap.size ((a.take k).map Int.ofNat++lo.map Int.ofNat++(t:Int)::(List.replicate (a.length-k-b.length) 0).map Int.ofNat)/\(a.take k).length=k /\
   val (lo++[t])<1000000000*val b /\
   ∀ (q:Nat) (wt:World) (lo':List Nat) (c:Int),val (lo++[t])/val b<=q->q<=val (lo++[t])/val b+1->lo'.length=b.length->aP lo'->(val lo':Int)+1000000000^b.length*c=(val lo:Int)-(q:Int)*(val b:Int) ->
    bX wt w.heap.size ((a.take k).map Int.ofNat++lo'.map Int.ofNat++((t:Int)+c)::(List.replicate (a.length-k-b.length) 0).map Int.ofNat)->iQ w.heap.size wr wt->sP a b w g k q ((t:Int)+c) wt:=by
 obtain⟨rr,qs,h1,h2,h3,h4,h5,h6,h7,h8,h9,h10⟩:=h;have hka:k<a.length:=by omega
 obtain⟨lo,t,e,el⟩:=Dv.aQ9 (x:=a.getD k 0) (rr:=rr);have hdg:aP (a.getD k 0::rr):=aP.cons (hda.getD k) h2;rw[e] at hdg;have hdl:aP lo:=fun x hx=>hdg x (List.mem_append_left _ hx);have ht:t<1000000000:=hdg t (List.mem_append_right _ (List.mem_singleton_self t));have hv:val (lo++[t])=a.getD k 0+1000000000*val rr:=by rw[<- e]; rfl
 have hll:lo.length=b.length:=by omega
 have hvl:(val lo:Int)+1000000000^b.length*(t:Int)=((a.getD k 0+1000000000*val rr:Nat):Int):=by
  rw[<- hv,Dv.aJ6,hll,Int.natCast_add,Int.natCast_mul,Int.natCast_pow];rfl
 have hrow:(a.take (k+1)++rr++List.replicate (a.length+1-(k+1)-b.length) 0).map Int.ofNat=(a.take k).map Int.ofNat++lo.map Int.ofNat++(t:Int)::(List.replicate (a.length-k-b.length) 0).map Int.ofNat:=by
  have e1:a.take (k+1)=a.take k++[a.getD k 0]:=by
   rw[List.take_succ_eq_append_getElem hka];simp[List.getD_eq_getElem?_getD,hka]
  rw[e1,List.append_assoc (a.take k),List.singleton_append,e,show a.length+1-(k+1)-b.length=a.length-k-b.length by omega];simp
 rw[hrow] at h6;refine⟨lo,t,hll,hdl,ht,h9,h6,by rw[List.length_take]; omega,?_,fun q wt lo' c hq1 hq2 hl' hd' he hr hc=>?_⟩
 ·rw[hv];have:=hda.getD k;omega
 ·rw[hv] at hq1 hq2;refine⟨lo',qs,val rr,hl',hd',h3,h4,h5,hr,aLw h7 hc h8,h8,h9.trans hc.below,h10,?_,hq1,hq2⟩;rw[Int.mul_add,<- hvl];generalize (1000000000:Int)^b.length*c=X at *;generalize (1000000000:Int)^b.length*(t:Int)=Y at *;generalize (q:Int)*(val b:Int)=Z at *;omega
theorem sP.view {a b:List Nat} {w:World} {g k q:Nat} {t:Int} {wr:World} (h:sP a b w g k q t wr) (hk:k<a.length) (hdb:aP b) :
  Below w.heap.size w wr /\ -1<=t/\t<=0/\wr.cell? ⟨w.heap.size,k+b.length,none⟩=some (.int .i64 t) /\
  ∃ lo:List Nat,lo.length=b.length/\aP lo/\(a.take k).length=k/\bX wr w.heap.size ((a.take k).map Int.ofNat++lo.map Int.ofNat++t::(List.replicate (a.length-k-b.length) 0).map Int.ofNat) /\
   ∀ (wt:World) (lo':List Nat) (c:Int),t<0->lo'.length=b.length->aP lo'->(val lo':Int)+1000000000^b.length*c=(val lo:Int)-(-1)*(val b:Int) ->
    bX wt w.heap.size ((a.take k).map Int.ofNat++lo'.map Int.ofNat++(t+c)::(List.replicate (a.length-k-b.length) 0).map Int.ofNat)->iQ w.heap.size wr wt->1<=q/\sP a b w g k (q-1) (t+c) wt:=by
 obtain⟨lo,qs,R,h1,h2,h3,h4,h5,h6,h7,h8,h9,h10,h11,h12,h13⟩:=h;have hlk:(a.take k).length=k:=by rw[List.length_take]; omega
 have hA:((a.take k).map Int.ofNat++lo.map Int.ofNat).length=k+b.length:=by simp[h1]; omega
 have hyP:(val b:Int)<1000000000^b.length:=by
  have:=mP hdb;have e:((1000000000^b.length:Nat):Int)=(1000000000:Int)^b.length:=by rw[Int.natCast_pow]; rfl
  rw[<- e]; omega
 have hlP:(val lo:Int)<1000000000^b.length:=by
  have:=mP h2;rw[h1] at this;have e:((1000000000^b.length:Nat):Int)=(1000000000:Int)^b.length:=by rw[Int.natCast_pow]; rfl
  rw[<- e]; omega
 have hl0:(0:Int)<=(val lo:Int):=by omega
 obtain⟨p,hp⟩:∃ p,p=a.getD k 0+1000000000*R:=⟨_,rfl⟩
 rw[<- hp] at h11 h12 h13;have hy0:0<val b:=by omega
 have hdm:=Nat.div_add_mod p (val b);have hml:=Nat.mod_lt p hy0;have hqy1:(q:Int)*(val b:Int)<=((p/val b:Nat):Int)*(val b:Int)+(val b:Int):=by
  have:=Nat.mul_le_mul_right (val b) h13;rw[Nat.succ_mul] at this;rw[<- Int.natCast_mul,<- Int.natCast_mul];omega
 have hdm2:((p/val b:Nat):Int)*(val b:Int)+((p%val b:Nat):Int)=(p:Int):=by
  rw[<- Int.natCast_mul,Nat.mul_comm];omega
 have hrlow : -(val b:Int)<=(p:Int)-(q:Int)*(val b:Int):=by omega
 have hqy2:((p/val b:Nat):Int)*(val b:Int)<=(q:Int)*(val b:Int):=by
  have:=Nat.mul_le_mul_right (val b) h12;rw[<- Int.natCast_mul,<- Int.natCast_mul];omega
 have hrup:(p:Int)-(q:Int)*(val b:Int)<(val b:Int):=by omega
 have ht1 : -1<=t:=by
  refine Int.not_lt.1 fun ht=>?_;have:=Int.mul_le_mul_of_nonneg_left (show t <= -2 by omega) (show (0:Int)<=1000000000^b.length by omega);omega
 have ht2:t<=0:=by
  refine Int.not_lt.1 fun ht=>?_;have:=Int.mul_le_mul_of_nonneg_left (show 1<=t by omega) (show (0:Int)<=1000000000^b.length by omega);omega
 refine⟨h9,ht1,ht2,by rw[h6.cell (by simp[h1]; omega),Dv.aD9 _ _ _ _ hA],lo,h1,h2,hlk,h6,fun wt lo' c ht hl' hd' he hr hc=>?_⟩;have hneg:=Dv.aW4 hl0 hlP h11 ht;have hq1:p/val b<q:=by
  refine Nat.lt_of_not_le fun hle=>?_;have:=Nat.mul_le_mul_right (val b) hle;have e:(q:Int)*(val b:Int)<=((p/val b:Nat):Int)*(val b:Int):=by
   rw[<- Int.natCast_mul,<- Int.natCast_mul];exact Int.ofNat_le.2 this
  omega
 obtain⟨q',rfl⟩:∃ q',q=q'+1:=⟨q-1,(Nat.sub_add_cancel (Nat.lt_of_le_of_lt (Nat.zero_le _) hq1)).symm⟩
 refine⟨by omega,lo',qs,R,hl',hd',h3,h4,h5,hr,aLw h7 hc h8,h8,h9.trans hc.below,h10,?_,?_,?_⟩
 ·rw[<- hp,Int.mul_add,show q'+1-1=q' from rfl];have e:((q'+1:Nat):Int)*(val b:Int)=(q':Int)*(val b:Int)+(val b:Int):=by rw[Int.natCast_add,Int.add_mul]; omega
  rw[e] at h11;generalize (1000000000:Int)^b.length*c=X at *;generalize (1000000000:Int)^b.length*t=Y at *;generalize (q':Int)*(val b:Int)=Z at *;omega
 ·rw[<- hp]; omega
 ·rw[<- hp]; omega
theorem sP.done {a b:List Nat} {w:World} {g k q:Nat} {t:Int} {wr:World} (h:sP a b w g k q t wr) (hk:k+b.length<=a.length) (hdb:aP b) (hda:aP a) (hb2:2<=b.length) (ht:0<=t) :
  (∃ v,wr.cell? ⟨g,k,none⟩=some v)/\wr.frozen? ⟨g,k,none⟩=false/\sQ a b w g k (wr.setCell ⟨g,k,none⟩ (.int .i64 (q:Int))):=by
 obtain⟨lo,qs,R,h1,h2,h3,h4,h5,h6,h7,h8,h9,h10,h11,h12,h13⟩:=h;have hka:k<a.length:=by omega
 have hkq:k<qs.length:=by omega
 have e:((1000000000^b.length:Nat):Int)=(1000000000:Int)^b.length:=by rw[Int.natCast_pow]; rfl
 have hyP:(val b:Int)<1000000000^b.length:=by
  have:=mP hdb;rw[<- e]; omega
 have hlP:(val lo:Int)<1000000000^b.length:=by
  have:=mP h2;rw[h1] at this;rw[<- e]; omega
 have hl0:(0:Int)<=(val lo:Int):=by omega
 obtain⟨p,hp⟩:∃ p,p=a.getD k 0+1000000000*R:=⟨_,rfl⟩
 have hak:=hda.getD k;rw[<- hp] at h11 h12 h13;have hy0:0<val b:=by omega
 have hpos:=Dv.aW3 hl0 hlP h11 ht;have hqy:q*val b<=p:=by
  have e:((q*val b:Nat):Int)=(q:Int)*(val b:Int):=Int.natCast_mul ..;omega
 have hq:q=p/val b:=Nat.le_antisymm ((Nat.le_div_iff_mul_le hy0).2 hqy) h12;have hdm:=Nat.div_add_mod p (val b);have hml:=Nat.mod_lt p hy0;rw[<- hq,Nat.mul_comm] at hdm;have hr:(p:Int)-(q:Int)*(val b:Int)=((p%val b:Nat):Int):=by
  rw[<- Int.natCast_mul];omega
 rw[hr] at h11;obtain⟨t0,hv⟩:=Dv.aUl hl0 hlP h11 (by omega) (by omega);subst t0;have hvl:val lo=p%val b:=by omega
 have hq9:q<1000000000:=by
  rw[hq,Nat.div_lt_iff_lt_mul hy0];omega
 refine⟨⟨_,h7.cell (by omega)⟩,mW h7 _,lo,qs.set k q,h1,h2,by omega,by simpa using h4,h5.set _ _ hq9,?_,h7.store _ _ _ rfl,h8,h9.setCell (by simp; omega) _,?_⟩
 ·have h6':bX (wr.setCell ⟨g,k,none⟩ (.int .i64 (q:Int))) w.heap.size ((a.take k).map Int.ofNat++lo.map Int.ofNat++0::(List.replicate (a.length-k-b.length) 0).map Int.ofNat):=by
   unfold bX;rw[heap_setCell_other _ _ _ _ (by simp; omega)];exact h6
  rw[show a.length+1-k-b.length=(a.length-k-b.length)+1 by omega,List.replicate_succ];simpa using h6'
 ·rw[hvl];refine Dv.wG hka hkq h10 ?_;rw[<- hp,Nat.mul_comm (val b) q];exact hdm.symm
theorem sQ.fin {a b:List Nat} {w:World} {g:Nat} {wr:World} (h:sQ a b w g 0 wr) (hab:b.length<=a.length) (hm:a.length+1<=maxLen) :
  ∃ rs qs,aP rs/\aP qs/\dV rs=aA (val a%val b)/\dV qs=aA (val a/val b)/\aL wr (.slice (some ⟨w.heap.size,0,none⟩) (a.length+1) (a.length+1)) rs /\
   aL wr (.slice (some ⟨g,0,none⟩) (a.length-b.length+1) (a.length-b.length+1)) qs/\Below w.heap.size w wr:=by
 obtain⟨rr,qs,h1,h2,h3,h4,h5,h6,h7,h8,h9,h10⟩:=h;rw[List.drop_zero,List.drop_zero] at h10;rw[List.take_zero,List.nil_append,Nat.sub_zero] at h6;have hl:(rr++List.replicate (a.length+1-b.length) 0).length=a.length+1:=by simp[h1]; omega
 have hd:aP (rr++List.replicate (a.length+1-b.length) 0):=h2.append (aP.replicate _);have hv:val (rr++List.replicate (a.length+1-b.length) 0)=val rr:=by rw[val_append,aG3]; omega
 refine⟨_,qs,hd,h5,?_,?_,?_,?_,h9⟩
 ·rw[<- nB hd,hv,h10,Nat.mul_add_mod,Nat.mod_eq_of_lt h3]
 ·rw[<- nB h5,h10,Nat.mul_add_div (by omega),Nat.div_eq_of_lt h3,Nat.add_zero]
 ·have h11:=eL.nums h6 (a.length+1) (by omega) hm;rw[hl] at h11;exact h11
 ·have h11:=h7.nums (a.length-b.length+1) (by omega) (by omega);rw[h4] at h11;exact h11
theorem aS8 (P post:List Int) (D:List Nat) (j i:Nat) (hP:P.length=j) (hi:i<D.length):(P++D.map Int.ofNat++post).getD (j+i) 0=((D.getD i 0:Nat):Int):=by
 subst hP;rw[List.append_assoc,List.getD_eq_getElem?_getD,List.getElem?_append_right (by omega),Nat.add_sub_cancel_left,List.getElem?_append_left (by simpa using hi),List.getElem?_map,List.getD_eq_getElem?_getD,List.getElem?_eq_getElem hi];rfl
theorem aS7 {w:World} {g j cap n:Nat} {P post:List Int} {lo:List Nat} {t:Nat} (h:bX w g (P++lo.map Int.ofNat++(t:Int)::post)) (hP:P.length=j) (hl:lo.length=n) (hc:n+1<=cap) (hm:cap<=maxLen):aL w (.slice (some ⟨g,j,none⟩) (n+1) cap) (lo++[t]):=by
 have e:P++lo.map Int.ofNat++(t:Int)::post=P++(lo++[t]).map Int.ofNat++post:=by simp
 rw[e] at h;have el:(lo++[t]).length=n+1:=by simp[hl]
 exact bX.nums h j (n+1) cap (lo++[t]) el hc hm (by simp[hl]; omega) fun i hi=>aS8 _ _ _ _ _ hP (by omega)
set_option maxRecDepth 100000 in
set_option maxHeartbeats 4000000 in
theorem aPx (va vb:Value) (a b:List Nat) (w:World) (ha:aL w va a) (hb:aL w vb b) (hda:aP a) (hdb:aP b) (hb2:2<=b.length) (hab:b.length<=a.length) (htop:b.getD (b.length-1) 0≠0) (hla:a.length<=1099511627776) :
  Calls Tryz.prog 233 #[va,vb] w (vH w (val a/val b) (val a%val b)):=by
 obtain⟨i0,hi,hz0,hz1,hz2⟩:=info_parts kR;have HNB:=hid hb;obtain⟨ao,ac,rfl,a1,a2,a3⟩:=ha;obtain⟨bo,bc,rfl,b1,b2,-⟩:=hb;have HA:=hid a3;have HDA:=hid hda;have HDB:=hid hdb;have HTOP:=hid htop;clear a3 hda hdb htop;unfold maxLen at a2 b2
 go_enter Tryz.func233,Tryz.ntmps233
 go_wp2_with fail
 go_step3
 go_wp2_with (at_make; refine oX rfl (.tmp 13) (.tmp 13) rfl i0 hi hz0 hz1 hz2 fN _ _ (a.length+1) rfl rfl (by omega) (by omega) (by omega) ?_)
 intro w1 hrow hbel hsz;have HRW:=hid (show w1.heap[w.heap.size]?=some (.cells ((List.replicate (a.length+1) (0:Int)).map (Value.int .i64)).toArray 3 (0,0)) from hrow);have HB:=hid hbel;clear hrow hbel hsz
 go_wp2_with (with_reducible refine wpList_copy_splice rfl (.tmp 15) (.tmp 16) 22 22 rfl 3 fN ?c0 _ _ (a.length+1) (a.length+1) a.length ac rfl rfl w.heap.size 0 ((List.replicate (a.length+1) (0:Int)).map (Value.int .i64)) 3 HRW.out (a.map fun d:Nat=>Value.int .i64 (d:Int)) ?c1 ?c2 ?c3 ?c4 w.heap.size w ?c5 ?c6 ?_)
 case c0=>rw[hi]; simp[hz1]
 case c1 =>
  show _=Nat.min a.length (a.length+1);rw[List.length_map];exact(Nat.min_eq_left (Nat.le_succ _)).symm
 case c2 =>
  intro hl;obtain⟨bb,off,rfl,hc⟩:=HA.out (by omega);refine⟨_,rfl,fun j d hd1=>?_⟩;have hja:j<a.length:=by simpa using (List.getElem?_eq_some_iff.1 hd1).1
  rw[Addr.add_lit];refine keepCell HB.out ((hc j hja).trans ?_);rw[List.getD_eq_getElem?_getD,hd1];rfl
 case c3=>simp
 case c4 =>
  intro v hv;obtain⟨d,_,rfl⟩:=List.mem_map.1 hv;rfl
 case c5=>exact HB.out
 case c6=>exact Nat.le_refl _
 intro w2 hrow2 hbel2;have HR2:=hid (show bX w2 w.heap.size ((a++[0]).map Int.ofNat) by
  unfold bX;rw[hrow2.out];congr 2;unfold splice;simp)
 have HB2:=hid hbel2;clear hrow2 hbel2 HRW HB
 go_wp2_with (at_make; refine oX rfl (.tmp 23) (.tmp 23) rfl i0 hi hz0 hz1 hz2 fN _ _ (a.length-b.length+1) rfl rfl (by omega) (by omega) (by omega) ?_)
 intro w3 hrow hbel hsz;have hg3:w.heap.size<w2.heap.size:=bX.lt HR2.out;have HC:=hid (show sQ a b w w2.heap.size (a.length-b.length+1) w3 from by
  have hvb:1000000000^(b.length-1)<=val b:=by
   have h1:=Dv.qJ b (b.length-1);rw[show b.length-1+1=b.length by omega,List.take_of_length_le (Nat.le_refl _)] at h1;have h2:=Nat.mul_le_mul_left (1000000000^(b.length-1)) (Nat.pos_of_ne_zero HTOP.out);rw[Nat.mul_one] at h2;omega
  have hvr:val (a.drop (a.length-b.length+1)++[0])=val (a.drop (a.length-b.length+1)):=by rw[Dv.aJ6]; omega
  have hlt:=mP (HDA.out.drop (a.length-b.length+1));rw[List.length_drop,show a.length-(a.length-b.length+1)=b.length-1 by omega] at hlt;refine⟨a.drop (a.length-b.length+1)++[0],List.replicate (a.length-b.length+1) 0,by simp; omega,(HDA.out.drop _).append (aP.cons (by decide) aP.nil),by rw[hvr]; omega,by simp,aP.replicate _,?_,eL.made hrow,hg3,HB2.out.trans (hbel.mono (Nat.le_of_lt hg3)),?_⟩
  ·rw[show a.length+1-(a.length-b.length+1)-b.length=0 by omega,List.replicate_zero,List.append_nil,<- List.append_assoc,List.take_append_drop];exact HR2.out.keep hbel
  ·rw[hvr,show (List.replicate (a.length-b.length+1) 0).drop (a.length-b.length+1)=[] by simp];simp[val])
 clear hrow hbel hsz HR2 HB2;go_wp2
 go_step3
 go_wp2
 go_loopw [8] (fun i wr=>∃ k:Nat,k<=a.length-b.length+1/\i=.int .i64 ((k:Int)-1)/\sQ a b w w2.heap.size k wr) (fun i _=>(intOf i+1).toNat)
 case atStart=>exact⟨a.length-b.length+1,Nat.le_refl _,by congr 1; omega,HC.out⟩
 case round =>
  obtain⟨k,hk,rfl,hrel⟩:=hrel;have HR:=hid hrel;clear hrel;rcases Nat.eq_zero_or_pos k with h0 | h0
  ·subst h0;obtain⟨rs,qs,f1,f2,f3,f4,f5,f6,f7⟩:=HR.out.fin hab (by unfold maxLen; omega);have F3:=hid f3;have F4:=hid f4;have F5:=hid f5;have F6:=hid f6;have F7:=hid f7;clear f1 f2 f3 f4 f5 f6 f7 HC HR
   go_wp2_with fail
   refine(uA _ qs _ F6.out).mono ?_;rintro e w' ⟨v',rfl,rfl,hn⟩;have HV:=hid (hn _ F6.out);clear hn
   go_wp2_with fail
   refine(uA _ rs _ F5.out).mono ?_;rintro e w' ⟨v2,rfl,rfl,hn⟩;have HV2:=hid (hn _ F5.out);clear hn;rw[F4.out] at HV;rw[F3.out] at HV2;go_wp2;rw[Exit.noGoto_ret];go_ret2;exact⟨v',v2,rfl,HV.out,HV2.out,F7.out⟩
  ·obtain⟨j,rfl⟩:∃ j,k=j+1:=⟨k-1,by omega⟩
   obtain⟨lo,t,hll,hdl,ht9,hbel,hrow,hlk,hvp,hnext⟩:=HR.out.part hk hb2 hab HDA.out;rw[show ((j+1:Nat):Int)-1=(j:Int) by omega];have hji:(j:Int)+(b.length:Int)<=(a.length:Int):=by omega
   have HN:=hid hnext;have HBL:=hid hbel;have HRW:=hid hrow;have HPT:=hid (aS7 hrow (by simpa using hlk) hll (cap:=a.length+1-j) (by omega) (by unfold maxLen; omega));have HDP:=hid (hdl.append (aP.cons ht9 aP.nil));have HVP:=hid hvp;have HLK:=hid hlk;have HDL:=hid hdl;clear hnext hbel hrow hvp hlk hdl HC HR
   go_wp2_with fail
   rw[show j+b.length+1-j=b.length+1 by omega];refine(aTj _ _ (lo++[t]) b wr HPT.out (HNB.out.keep HBL.out) HDP.out HDB.out hb2 (by simp[hll]) HTOP.out HVP.out (by omega)).mono ?_;rintro e w4 ⟨q,rfl,hq1,hq2,hq9,hb4⟩;have HQ1:=hid hq1;have HQ2:=hid hq2;have HB4:=hid hb4;clear hq1 hq2 hb4
   go_wp2_with fail
   refine(aKa w.heap.size j (a.length+1-j) ((a.take j).map Int.ofNat) lo (t:Int) ((List.replicate (a.length-j-b.length) 0).map Int.ofNat) _ b (q:Int) w w4 HNB.out (Pu.aO HBL.out HB4.out) (Nat.le_refl _) (HRW.out.keep HB4.out) (by simpa using HLK.out) hll HDL.out HDB.out (by omega) (by omega) (by omega) (by omega) (by omega) (by unfold maxLen; omega) (by omega)).mono ?_;rintro e w5 ⟨rfl,lo',c,hl',hd',he,hr5,hc5⟩;rw[hll] at he;have HP:=hid (HN.out q w5 lo' c HQ1.out HQ2.out (hl'.trans hll) hd' he hr5 ((aQc HB4.out HBL.out.size).trans hc5));clear hl' hd' he hr5 hc5 HN HBL HRW HPT HDP HVP HLK HDL HQ1 HQ2 HB4 ht9 hll;go_wp2
   go_loopw [10] (fun q' wr'=>∃ (q:Nat) (t:Int),q'=.int .i64 q/\q<=1000000000/\sP a b w w2.heap.size j q t wr') (fun q' _=>(intOf q').toNat)
   case atStart=>exact⟨q,_,rfl,hq9,HP.out⟩
   case round =>
    clear HP hq9;obtain⟨q,t,rfl,hq9,hrel⟩:=hrel;have HR:=hid hrel;clear hrel;obtain⟨hbel,ht1,ht2,hcell,lo,hll,hdl,hlk,hrow,hnext⟩:=HR.out.view (by omega) HDB.out;by_cases ht:t<0
    ·have htn:¬ (0<=t):=by omega
     have HN:=hid hnext;have HRW:=hid hrow;have HLK:=hid hlk;have HDL:=hid hdl;have HBL:=hid hbel;clear hnext hrow hlk hdl HR
     go_wp2_with fail
     refine(aKa w.heap.size j (a.length+1-j) ((a.take j).map Int.ofNat) lo t ((List.replicate (a.length-j-b.length) 0).map Int.ofNat) _ b (-1) w wr HNB.out HBL.out (Nat.le_refl _) HRW.out (by simpa using HLK.out) hll HDL.out HDB.out (by omega) (by omega) (by omega) (by omega) (by omega) (by unfold maxLen; omega) (by omega)).mono ?_;rintro e w6 ⟨rfl,lo',c,hl',hd',he,hr6,hc6⟩;rw[hll] at he;obtain⟨hq1,hrel⟩:=HN.out w6 lo' c ht (hl'.trans hll) hd' he hr6 hc6;have HREL:=hid hrel;clear hrel hl' hd' he hr6 hc6 HN HRW HLK HDL HBL hbel hcell;go_wp2
     go_roundw
     case rel=>exact⟨q-1,_,by congr 1; omega,by omega,HREL.out⟩
     case measure=>simp[intOf]; omega
    ·have htn:0<=t:=by omega
     obtain⟨⟨v0,hc0⟩,hf0,hdone⟩:=HR.out.done (by omega) HDB.out HDA.out hb2 htn;have HD:=hid hdone;clear hdone hnext hrow hlk hdl HR;go_wp2
     go_roundw
     case rel=>exact⟨j,by omega,rfl,HD.out⟩
     case measure=>simp[intOf]
theorem aFe {n:Nat} (h:0<n):(aA n).getD ((aA n).length-1) 0≠0:=aEg h
set_option maxRecDepth 100000 in
set_option maxHeartbeats 1000000 in
theorem aC6 (va vb:Value) (m n:Nat) (w:World) (ha:aL w va (aA m)) (hb:aL w vb (aA n)) (hn:0<n) (hl:(aA m).length<=1099511627776) :
  Calls Tryz.prog 225 #[va,vb] w (vH w (m/n) (m%n)):=by
 by_cases h1:(aA m).length<(aA n).length
 ·exact aQw va vb m n w ha hb h1
 by_cases h2:(aA m).length<=2
 ·exact aRx va vb m n w ha hb h1 h2 hn
 have hpos:0<(aA n).length:=by
  refine Nat.pos_of_ne_zero fun h0=>?_;have:=jF.1 (List.eq_nil_of_length_eq_zero h0);omega
 by_cases h3:(aA n).length=1
 ·have hn9:n<1000000000:=by
   have:=fG.1 (Nat.le_of_eq h3);rwa[Nat.pow_one] at this
  have hD:=hid (fun w1 h=>aPq va (aA m) n w1 h (bF m) hn hn9 hl);rw[aX] at hD;have HA:=hid ha;obtain⟨ao,ac,rfl,a1,a2,-⟩:=ha;obtain⟨bo,bc,rfl,b1,b2,b3⟩:=hb;obtain⟨bb,off,rfl,hc⟩:=b3 hpos;have hc0:=hc 0 hpos;rw[zN hn hn9] at hc0;have hc0':w.cell? ⟨bb,off,none⟩=some (.int .i64 (n:Int)):=hc0;have h1':¬ (((aA m).length:Int)<1):=by omega
  have h2':¬ (((aA m).length:Int)<=2):=by omega
  unfold maxLen at a2 b2;rw[h3] at b1 |-;have HH:=hid hD;clear hc hc0 b3 hD h1 h2 h3
  go_enter Tryz.func225,Tryz.ntmps225
  go_wp2_with fail
  refine(HH.out.out _ HA.out).mono ?_;rintro e w1 ⟨s,t,rfl,hs,ht,hb1⟩;have HS:=hid hs;have HT:=hid ht;have HB:=hid hb1;clear hs ht hb1;go_wp2;go_ret2;exact⟨s,t,rfl,HS.out,HT.out,HB.out⟩
 ·have hD:=hid (fun w1 h h'=>aPx va vb (aA m) (aA n) w1 h h' (bF m) (bF n) (by omega) (by omega) (aFe hn) hl);rw[aX,aX] at hD;have HA:=hid ha;have HB:=hid hb;obtain⟨ao,ac,rfl,a1,a2,-⟩:=ha;obtain⟨bo,bc,rfl,b1,b2,-⟩:=hb;have h1':¬ (((aA m).length:Int)<((aA n).length:Int)):=by omega
  have h2':¬ (((aA m).length:Int)<=2):=by omega
  have h3':(((aA n).length:Int)==1)=false:=by rw[beq_eq_false_iff_ne]; omega
  unfold maxLen at a2 b2;generalize (aA m).length=lm at *;generalize (aA n).length=ln at *;clear h1 h2 h3
  go_enter Tryz.func225,Tryz.ntmps225
  go_wp2_with fail
  refine(hD.out _ HA.out HB.out).mono ?_;rintro e w1 ⟨s,t,rfl,hs,ht,hb1⟩;have HS:=hid hs;have HT:=hid ht;have HBB:=hid hb1;clear hs ht hb1;go_wp2;go_ret2;exact⟨s,t,rfl,HS.out,HT.out,HBB.out⟩
set_option maxHeartbeats 1000000 in
theorem aYw (vx vy:Value) (x y:Int) (w:World) (hx:aW w vx x) (hy:aW w vy y) (hy0:y≠0) (hl1:len x<=1099511627000) (hl2:len y<=1099511627000) :
  Calls Tryz.prog 201 #[vx,vy] w (sM w (x/y) (x%y)) :=
 aZz vx vy x y w hx hy hy0 hl1 hl2 fun w va vb ha hb=>aC6 va vb x.natAbs y.natAbs w ha hb (Int.natAbs_pos.2 hy0) (Nat.le_trans hl1 (by decide))
theorem zQ {ds:List Nat} {k:Nat} (hd:aP ds) (hk:2<=k) (hl:ds.length<=k+1):fA ds k=val ds/1000000000^(k-2):=by
 have h1:=aIq ds k hk hl;have h2:=aEu hd (k-2);rw[h1,Nat.add_comm,Nat.add_mul_div_right _ _ (Nat.pow_pos (by decide)),Nat.div_eq_of_lt h2,Nat.zero_add]
def aZx (q:Nat) (w:World) (e:Ending) (w':World):Prop:=e=.returned (.int .i64 (q:Int))/\Below w.heap.size w w'
set_option maxRecDepth 100000 in
set_option maxHeartbeats 1000000 in
theorem aJg (vc:Value) (c:List Nat) (ao:Option Addr) (n ac ga gb D:Nat) (w:World) (hc:aL w vc c) (hd:aP c) (h1:w.cell? ⟨ga,0,none⟩=some (.slice ao n ac)) (h2:w.cell? ⟨gb,0,none⟩=some (.int .u64 (D:Int))) (hn:3<=n) (hn2:n<=1099511627776) (hD:2<=D) (hD2:D<=1000000000) (hlt:fA c (n-1)<D*1000000000000000000) :
  Calls Tryz.prog 235 #[vc,.pointer (some ⟨ga,0,none⟩),.pointer (some ⟨gb,0,none⟩)] w (aZx (fA c (n-1)/D) w):=by
 have HT:=hid (aL2 vc c (n-1) w hc hd (by omega) (by omega));have hqb:fA c (n-1)/D<1000000000000000000:=by
  rw[Nat.div_lt_iff_lt_mul (by omega),Nat.mul_comm];exact hlt
 generalize fA c (n-1)=N at *;have HD:=hid (aJ1 (N/18446744073709551616) (N%18446744073709551616) D w (by omega) (by omega) (Nat.mod_lt _ (by decide)));rw[show N/18446744073709551616*18446744073709551616+N%18446744073709551616=N by omega] at HD;unfold xW at HD;unfold aGc at HT;rw[show ((n-1:Nat):Int)=(n:Int)-1 by omega] at HT;generalize N/18446744073709551616=H at *;generalize N%18446744073709551616=L at *;generalize N%D=R at *;generalize N/D=q at *;have hki:(3:Int)<=(n:Int):=by omega
 have hkb:(n:Int)<=1099511627776:=by omega
 have hqi:(q:Int)<1000000000000000000:=by omega
 clear hlt hc hd
 go_enter Tryz.func235,Tryz.ntmps235
 go_wp2_with fail
 refine HT.out.mono ?_;rintro e w' ⟨rfl,rfl⟩
 go_wp2_with fail
 refine HD.out.mono ?_;rintro e w' ⟨rfl,hbel⟩;have HBL:=hid hbel;clear hbel;go_wp2
 go_ret
 exact⟨rfl,HBL.out⟩
def aYq (x y:Nat) (w:World) (e:Ending) (w':World):Prop:=e=.returned (.tuple #[.int .i64 (x:Int),.int .i64 (y:Int)])/\Below w.heap.size w w'
set_option maxRecDepth 100000 in
set_option maxHeartbeats 1000000 in
theorem aQs (va vb:Value) (a b:List Nat) (w:World) (ha:aL w va a) (hb:aL w vb b) (hda:aP a) (hdb:aP b) (hn:3<=a.length) (hn2:a.length<=1099511627776) (htop:a.getD (a.length-1) 0≠0) (hbl:b.length<=a.length) (hle:val b<=val a) :
  Calls Tryz.prog 231 #[va,vb] w (aYq (fA a (a.length-1)/(a.getD (a.length-1) 0+1)) (fA b (a.length-1)/(a.getD (a.length-1) 0+1)) w):=by
 have ha':=ha;obtain⟨ao,ac,rfl,a1,a2,-⟩:=ha';have HA:=hid ha;have HB:=hid hb;have d0:=hda.getD (a.length-1);have d1:=hda.getD (a.length-1-1);have d2:=hda.getD (a.length-1-2);have hta:fA a (a.length-1)<(a.getD (a.length-1) 0+1)*1000000000000000000:=by unfold fA; omega
 have htb:fA b (a.length-1)<=fA a (a.length-1):=by
  rw[zQ hda (by omega) (by omega),zQ hdb (by omega) (by omega)];exact Nat.div_le_div_right hle
 have HP:=hid (fun w1 (h:aL w1 (.slice ao a.length ac) a)=>tO _ a (a.length-1) w1 h hda (by omega));rw[show ((a.length-1:Nat):Int)=(a.length:Int)-1 by omega] at HP;have HFA:=hid (fun w1 ga gb (h:aL w1 (.slice ao a.length ac) a) h1 h2=>aJg (.slice ao a.length ac) a ao a.length ac ga gb (a.getD (a.length-1) 0+1) w1 h hda h1 h2 hn hn2 (by omega) (by omega) hta);have HFB:=hid (fun w1 ga gb (h:aL w1 vb b) h1 h2=>aJg vb b ao a.length ac ga gb (a.getD (a.length-1) 0+1) w1 h hdb h1 h2 hn hn2 (by omega) (by omega) (by omega));generalize fA a (a.length-1)/(a.getD (a.length-1) 0+1)=x at *;generalize fA b (a.length-1)/(a.getD (a.length-1) 0+1)=y at *;generalize a.getD (a.length-1) 0=d at *;have hki:(3:Int)<=(a.length:Int):=by omega
 have hkb:(a.length:Int)<=1099511627776:=by omega
 have hdi:(d:Int)<1000000000:=by omega
 obtain⟨D,hD⟩:∃ D,D=d+1:=⟨_,rfl⟩
 have HDD:=hid (show (D:Int)<=1000000000/\0<=(D:Int) by omega);have HDI:=hid (show (d:Int)+1=(D:Int) by omega);rw[<- hD] at HFA HFB;obtain⟨W1,hW1⟩:∃ W1,W1=w.alloc (Obj.cells #[Value.slice ao a.length ac] 22):=⟨_,rfl⟩
 have hb1:Below w.heap.size w W1:=by rw[hW1]; exact(Below.refl _ _).alloc (Nat.le_refl _) _
 have hs1:W1.heap.size=w.heap.size+1:=by rw[hW1]; simp
 have hc1:W1.cell? ⟨w.heap.size,0,none⟩=some (.slice ao a.length ac):=by rw[hW1]; exact cell_of_row _ _ 0 _ _ _ (heap_alloc_new w _)
 obtain⟨W2,hW2⟩:∃ W2,W2=W1.alloc (Obj.cells #[Value.int .u64 (D:Int)] 169):=⟨_,rfl⟩
 have hb2:Below W1.heap.size W1 W2:=by rw[hW2]; exact(Below.refl _ _).alloc (Nat.le_refl _) _
 have hc2:W2.cell? ⟨w.heap.size+1,0,none⟩=some (.int .u64 (D:Int)):=by rw[hW2,<- hs1]; exact cell_of_row _ _ 0 _ _ _ (heap_alloc_new W1 _)
 have hc1':=keepCell hb2 hc1;have HW1:=hid hW1;have HW2:=hid hW2;have HB1:=hid hb1;have HB2:=hid hb2;have HC1:=hid hc1';have HC2:=hid hc2;have HS1:=hid hs1;clear hta htb ha hb a2 hda hdb hD hb1 hb2 hc1' hc2 hW1 hW2 hs1
 go_enter Tryz.func231,Tryz.ntmps231
 go_wp2_with fail
 rw[<- HW1.out];refine(HP.out _ (HA.out.keep HB1.out)).mono ?_;rintro e w' ⟨rfl,rfl⟩;clear hc1 htop d0 d1 d2 hle hdi;have hwr:IntKind.u64.wrap ((d:Int)+1)=(D:Int):=by rw[HDI.out]; exact IntWalk.u64_in _ (by have:=HDD.out; omega)
 go_upto_region 3 with fail
 rw[<- HW2.out,HS1.out];have hc1:=HC1.out
 go_wp2_with fail
 refine(HFA.out W2 w.heap.size (w.heap.size+1) ((HA.out.keep HB1.out).keep HB2.out) HC1.out HC2.out).mono ?_;rintro e w3 ⟨rfl,hb3⟩;have HB3:=hid hb3;clear hb3 hc1
 go_wp2_with fail
 refine(HFB.out w3 w.heap.size (w.heap.size+1) (((HB.out.keep HB1.out).keep HB2.out).keep HB3.out) (keepCell HB3.out HC1.out) (keepCell HB3.out HC2.out)).mono ?_;rintro e w4 ⟨rfl,hb4⟩;have HB4:=hid (Pu.aO (Pu.aO (Pu.aO HB1.out HB2.out) HB3.out) hb4);clear hb4;go_wp2;go_ret2;exact⟨rfl,HB4.out⟩
theorem aCf:(Tryz.prog.info? 184).map (·.size)=some 4:=by kernel_rfl
theorem aG1:(Tryz.prog.underlying 184).map (fun d=>match d with | .struct _=>true | _=>false)=some true:=by kernel_rfl
def fR (w:World) (g:Nat) (p q r s:Int):Prop:=w.heap[g]?=some (.cells #[.int .i64 p,.int .i64 q,.int .i64 r,.int .i64 s] 184 (0,0))
theorem fR.keep {w w':World} {g:Nat} {p q r s:Int} (h:fR w g p q r s) (hb:Below w.heap.size w w'):fR w' g p q r s:=bS hb h
theorem fR.cells {w:World} {g:Nat} {p q r s:Int} (h:fR w g p q r s):w.cell? ⟨g,0,none⟩=some (.int .i64 p)/\w.cell? ⟨g,1,none⟩=some (.int .i64 q)/\w.cell? ⟨g,2,none⟩=some (.int .i64 r)/\w.cell? ⟨g,3,none⟩=some (.int .i64 s) :=
 ⟨cell_of_row _ _ 0 _ _ _ h,cell_of_row _ _ 1 _ _ _ h,cell_of_row _ _ 2 _ _ _ h,cell_of_row _ _ 3 _ _ _ h⟩
theorem fR.set {w:World} {g:Nat} {p q r s p' q' r' s':Int} (h:fR w g p q r s):fR (w.setRow g #[.int .i64 p',.int .i64 q',.int .i64 r',.int .i64 s']) g p' q' r' s':=setRow_heap _ _ _ _ _ _ h
theorem fR.other {w:World} {g h:Nat} {p q r s:Int} {cs:Array Value} (hr:fR w g p q r s) (hne:g≠h):fR (w.setRow h cs) g p q r s:=by
 unfold fR;rw[setRow_other w h g cs hne];exact hr
theorem vV {ops:Array Oper} {rest:List Oper} {o:Oper} {a:Act} {w:World} {Q:Exit->Act->World->Prop} (hgd:o.guard=none) (x:Operand) (ho:o.op=.load 184 x)
  (g:Nat) (p q r s:Int) (hx:a.eval x=.pointer (some ⟨g,0,none⟩)) (hg:fR w g p q r s)
  (h:wpList Tryz.prog ops Q rest (a.put o.dst (.agg #[.int .i64 p,.int .i64 q,.int .i64 r,.int .i64 s])) w):wpList Tryz.prog ops Q (o::rest) a w:=by
 obtain⟨d,hd1,hd2⟩:=rX aG1;exact wpList_load_row hgd 184 x ho g hx 184 _ (0,0) d hg hd1 (by cases d<;>first | rfl | cases hd2) aCf h
theorem yR {ops:Array Oper} {rest:List Oper} {o:Oper} {a:Act} {w:World} {Q:Exit->Act->World->Prop} (hgd:o.guard=none) (x y:Operand) (ho:o.op=.store 184 x y)
  (g:Nat) (p q r s p' q' r' s':Int) (hx:a.eval x=.pointer (some ⟨g,0,none⟩)) (hy:a.eval y=.agg #[.int .i64 p',.int .i64 q',.int .i64 r',.int .i64 s']) (hg:fR w g p q r s)
  (h:wpList Tryz.prog ops Q rest (a.put o.dst undef) (w.setRow g #[.int .i64 p',.int .i64 q',.int .i64 r',.int .i64 s'])):wpList Tryz.prog ops Q (o::rest) a w :=
 wpList_store_row hgd 184 x y ho g _ hx hy 184 _ hg aCf rfl (by simp[Value.oneCell']) h
def aGn (A B:Nat) (p q r s:Int):Prop :=
 (-1000000000<p/\p<1000000000 /\ -1000000000<q/\q<1000000000 /\ -1000000000<r/\r<1000000000 /\ -1000000000<s/\s<1000000000) /\
 (q≠0->∃ X Y:Nat,(X:Int)=p*(A:Int)+q*(B:Int)/\(Y:Int)=r*(A:Int)+s*(B:Int)/\Y<=X/\X<=A/\Y<B/\Nat.gcd X Y=Nat.gcd A B)
def aEp (A B:Nat) (w:World) (e:Ending) (w':World):Prop:=∃ p q r s,e=.returned (.agg #[.int .i64 p,.int .i64 q,.int .i64 r,.int .i64 s])/\aGn A B p q r s/\Below w.heap.size w w'
structure nN (A B:Nat) (x0 y0 M p q r s x y:Int):Prop where
 ex:∃ X Y:Int,Lh.T A B x0 y0 M p q r s x y X Y/\0<=Y/\Y<=X/\X<=A/\(q=0\/Y<B)/\Y<=B/\Int.gcd X Y=Nat.gcd A B
 bd : -1000000000<p/\p<1000000000 /\ -1000000000<q/\q<1000000000 /\ -1000000000<r/\r<1000000000 /\ -1000000000<s/\s<1000000000
 x0b:x0<1000000000000000000
 y0b:y0<1000000000000000000
 xb:x<1000000000000000000
 yb:y<1000000000000000000
theorem nN.known {A B:Nat} {x0 y0 M p q r s x y:Int} (h:nN A B x0 y0 M p q r s x y):aGn A B p q r s:=by
 refine⟨h.bd,fun hq=>?_⟩;obtain⟨X,Y,hT,h1,h2,h3,h4,-,h5⟩:=h.ex;obtain⟨e1,e2,-⟩:=hT.eqs;obtain⟨X,rfl⟩:=Int.eq_ofNat_of_zero_le (show 0<=X by omega);obtain⟨Y,rfl⟩:=Int.eq_ofNat_of_zero_le h1;exact⟨X,Y,e1,e2,by omega,by omega,by omega,h5⟩
theorem nN.pos {A B:Nat} {x0 y0 M p q r s x y:Int} (h:nN A B x0 y0 M p q r s x y):0<=x+p/\0<=x+q/\0<=y+r/\0<=y+s/\0<=x/\0<=y:=by
 obtain⟨X,Y,hT,-⟩:=h.ex;obtain⟨-,-,h1⟩:=hT.eqs;exact h1
theorem nN.step {A B:Nat} {x0 y0 M p q r s x y k:Int} (h:nN A B x0 y0 M p q r s x y) (h1:y+r≠0) (h2:y+s≠0) (hk1:k=(x+p)/(y+r)) (hk2:k=(x+q)/(y+s)) :
  nN A B x0 y0 M r s (p-k*r) (q-k*s) y (x-k*y)/\0<=k/\0<=x-k*y/\x-k*y<y/\0<=k*y:=by
 obtain⟨X,Y,hT,a1,a2,a3,a4,a6,a5⟩:=h.ex;obtain⟨hT',b1,b2,b3,b5,b6,b7,b8⟩:=hT.step h1 h2 hk1 hk2 h.x0b h.y0b;have hbd:=h.bd;obtain⟨e1,e2,-⟩:=hT'.eqs;refine⟨⟨⟨Y,X-k*Y,hT',b1,Int.le_of_lt b2,by omega,.inr (by omega),by omega,by rw[Lh.aAd]; exact a5⟩,by omega,h.x0b,h.y0b,h.yb,by have:=h.yb; omega⟩,b5,b6,b7,b8.1⟩
theorem nN.start {A B:Nat} {M x0 y0:Nat} (hM:0<M) (hx:x0=A/M) (hy:y0=B/M) (hx0:x0<1000000000000000000) (hBA:B<=A):nN A B x0 y0 M 1 0 0 1 x0 y0:=by
 have e1:=Nat.div_add_mod A M;have e2:=Nat.mod_lt A hM;have e3:=Nat.div_add_mod B M;have e4:=Nat.mod_lt B hM;have hyx:y0<=x0:=by rw[hx,hy]; exact Nat.div_le_div_right hBA
 rw[<- hx] at e1;rw[<- hy] at e3;have f1:((M*x0:Nat):Int)=(M:Int)*(x0:Int):=Int.natCast_mul ..;have f2:((M*y0:Nat):Int)=(M:Int)*(y0:Int):=Int.natCast_mul ..;refine⟨⟨A,B,Lh.T.start (by omega) (by omega) (by omega) (by omega) (by omega) (by omega) (by omega),by omega,by omega,by omega,.inl rfl,by omega,rfl⟩,by omega,by omega,by omega,by omega,by omega⟩
theorem aSr {fn:Func} {p:Tmp} (h:fn.results=#[.cell p 184]) {tmps:Array Value} {A B:Nat} {w0 w:World} {g:Nat} {a b c d:Int} (hp:tmps.getD p undef=.pointer (some ⟨g,0,none⟩))
  (hg:fR w g a b c d) (hk:aGn A B a b c d) (hb:Below w0.heap.size w0 w):bodyPost Tryz.prog fn (aEp A B w0) .ret ⟨tmps,[]⟩ w:=by
 obtain⟨dd,hd1,hd2⟩:=rX aG1;exact bodyPost_ret (results_cell_row h _ _ g 184 _ (0,0) dd hp hg hd1 (by cases dd<;>first | rfl | cases hd2) aCf) rfl ⟨a,b,c,d,rfl,hk,hb⟩
set_option maxRecDepth 100000 in
set_option maxHeartbeats 4000000 in
theorem aHc (va vb:Value) (a b:List Nat) (w:World) (ha:aL w va a) (hb:aL w vb b) (hda:aP a) (hdb:aP b) (hn:3<=a.length) (hn2:a.length<=1099511627776) (htop:a.getD (a.length-1) 0≠0) (hbl:b.length<=a.length) (hle:val b<=val a) :
  Calls Tryz.prog 223 #[va,vb] w (aEp (val a) (val b) w):=by
 obtain⟨W,hW⟩:∃ W,W=w.alloc (Obj.cells #[.int .i64 0,.int .i64 0,.int .i64 0,.int .i64 0] 184):=⟨_,rfl⟩
 have hbW:Below w.heap.size w W:=by rw[hW]; exact(Below.refl _ _).alloc (Nat.le_refl _) _
 have hr0:fR W w.heap.size 0 0 0 0:=by rw[hW]; exact heap_alloc_new w _
 have HL:=hid (aQs va vb a b W (ha.keep hbW) (hb.keep hbW) hda hdb hn hn2 htop hbl hle);have d0:=hda.getD (a.length-1);obtain⟨D,hD⟩:∃ D,D=a.getD (a.length-1) 0+1:=⟨_,rfl⟩
 rw[<- hD] at HL;have hM:0<1000000000^(a.length-1-2)*D:=Nat.mul_pos (Nat.pow_pos (by decide)) (by omega);have hx:fA a (a.length-1)/D=val a/(1000000000^(a.length-1-2)*D):=by rw[zQ hda (by omega) (by omega),Nat.div_div_eq_div_mul]
 have hy:fA b (a.length-1)/D=val b/(1000000000^(a.length-1-2)*D):=by rw[zQ hdb (by omega) (by omega),Nat.div_div_eq_div_mul]
 have hx0:fA a (a.length-1)/D<1000000000000000000:=by
  have d1:=hda.getD (a.length-1-1);have d2:=hda.getD (a.length-1-2);rw[Nat.div_lt_iff_lt_mul (by omega),hD];unfold fA;omega
 have HS:=hid (nN.start hM hx hy hx0 hle);generalize fA a (a.length-1)/D=x0 at *;generalize fA b (a.length-1)/D=y0 at *;generalize 1000000000^(a.length-1-2)*D=M at *;generalize val a=A at *;generalize val b=B at *;have HW:=hid hW;have HBW:=hid hbW;have HR0:=hid hr0;clear hW hbW hr0 hx hy hM ha hb hda hdb hx0 d0 hD hle hbl htop hn hn2
 go_enter Tryz.func223,Tryz.ntmps223
 go_wp2_with fail
 rw[<- HW.out];refine HL.out.mono ?_;rintro e w1 ⟨rfl,hb1⟩;have HB1:=hid (Pu.aO HBW.out hb1);have HR1:=hid (HR0.out.keep hb1);clear hb1;have hlt:w.heap.size<w1.heap.size:=by
  have h:=HR1.out;unfold fR at h;rcases Nat.lt_or_ge w.heap.size w1.heap.size with h1 | h1
  ·exact h1
  ·rw[Array.getElem?_eq_none h1] at h; cases h
 go_upto_region 3 with fail
 obtain⟨W2,hW2⟩:∃ W2,W2=w1.alloc (Obj.cells #[.int .i64 1,.int .i64 0,.int .i64 0,.int .i64 1] 184):=⟨_,rfl⟩
 have hb2:Below w1.heap.size w1 W2:=by rw[hW2]; exact(Below.refl _ _).alloc (Nat.le_refl _) _
 have hr2:fR W2 w1.heap.size 1 0 0 1:=by rw[hW2]; exact heap_alloc_new w1 _
 rw[<- hW2];have HB2:=hid (Pu.aO HB1.out hb2);have HR2:=hid hr2;have HR3:=hid (HR1.out.keep hb2);generalize w1.heap.size=h at *;clear hW2 hb2 hr2 HR1 HB1 HL HW HBW HR0
 go_loopw [5,6] (fun x y wr=>∃ x' y' p q r s,x=.int .i64 x'/\y=.int .i64 y'/\nN A B x0 y0 M p q r s x' y'/\fR wr h p q r s/\(∃ a b c d,fR wr w.heap.size a b c d)/\Below w.heap.size w wr) (fun _ y _=>(intOf y).toNat)
 case atStart=>exact⟨_,_,1,0,0,1,rfl,rfl,HS.out,HR2.out,⟨_,_,_,_,HR3.out⟩,HB2.out⟩
 case round =>
  clear HS HR2 HR3 HB2;obtain⟨x,y,p,q,r,s,rfl,rfl,hs,hrow,⟨a',b',c',d',hres⟩,hbel⟩:=hrel;obtain⟨n1,n2,n3,n4,n5,n6⟩:=hs.pos;obtain⟨p1,p2,q1,q2,r1,r2,s1,s2⟩:=hs.bd;have xb:=hs.xb;have yb:=hs.yb;obtain⟨c1,c2,c3,c4⟩:=hrow.cells;have HS:=hid hs;have HROW:=hid hrow;have HRES:=hid hres;have HBEL:=hid hbel;clear hs hrow hres hbel;obtain⟨u1,hu1⟩:∃ u,x+p=u:=⟨_,rfl⟩
  obtain⟨u2,hu2⟩:∃ u,y+r=u:=⟨_,rfl⟩
  obtain⟨u3,hu3⟩:∃ u,x+q=u:=⟨_,rfl⟩
  obtain⟨u4,hu4⟩:∃ u,y+s=u:=⟨_,rfl⟩
  rw[hu1] at n1;rw[hu2] at n3;rw[hu3] at n2;rw[hu4] at n4;have hret:∀ tmps:Array Value,tmps.getD 4 undef=.pointer (some ⟨w.heap.size,0,none⟩)->bodyPost Tryz.prog Tryz.f223 (aEp A B w) .ret ⟨tmps,[]⟩ (wr.setRow w.heap.size #[.int .i64 p,.int .i64 q,.int .i64 r,.int .i64 s]):=fun tmps ht =>
   aSr rfl ht HRES.out.set HS.out.known (mH HBEL.out (Nat.le_refl _) _)
  have HRET:=hid hret;clear hret;have hbu1:u1<=1000000001000000000:=by omega
  have hbu2:u2<=1000000001000000000:=by omega
  have hbu3:u3<=1000000001000000000:=by omega
  have hbu4:u4<=1000000001000000000:=by omega
  by_cases hz2:u2=0
  ·have hz:(u2==0)=true:=by rw[hz2]; rfl
   go_wp2_with (first | (with_reducible refine vV rfl (.tmp 7) rfl h p q r s rfl HROW.out ?_) | (with_reducible refine yR rfl (.tmp 4) (.tmp 28) rfl w.heap.size a' b' c' d' p q r s rfl rfl HRES.out ?_))
   exact HRET.out _ rfl
  ·have hz:(u2==0)=false:=by rw[beq_eq_false_iff_ne]; exact hz2
   by_cases hz4:u4=0
   ·have hzz:(u4==0)=true:=by rw[hz4]; rfl
    go_wp2_with (first | (with_reducible refine vV rfl (.tmp 7) rfl h p q r s rfl HROW.out ?_) | (with_reducible refine yR rfl (.tmp 4) (.tmp 28) rfl w.heap.size a' b' c' d' p q r s rfl rfl HRES.out ?_))
    exact HRET.out _ rfl
   ·have hzz:(u4==0)=false:=by rw[beq_eq_false_iff_ne]; exact hz4
    obtain⟨k,hk⟩:∃ k,u1/u2=k:=⟨_,rfl⟩
    obtain⟨k2,hk2⟩:∃ k,u3/u4=k:=⟨_,rfl⟩
    have hk0:0<=k:=by rw[<- hk]; exact Int.ediv_nonneg n1 n3
    have hk20:0<=k2:=by rw[<- hk2]; exact Int.ediv_nonneg n2 n4
    have hkb:k<=1000000001000000000:=by
     rw[<- hk];exact Int.le_trans (Int.ediv_le_self _ n1) hbu1
    have hk2b:k2<=1000000001000000000:=by
     rw[<- hk2];exact Int.le_trans (Int.ediv_le_self _ n2) hbu3
    by_cases hkk:k=k2
    ·subst hkk;have hkne:(k != k)=false:=by simp
     obtain⟨hs',m1,m2,m3,m4⟩:=HS.out.step (k:=k) (by rw[hu2]; exact hz2) (by rw[hu4]; exact hz4) (by rw[hu1,hu2]; exact hk.symm) (by rw[hu3,hu4]; exact hk2.symm);obtain⟨v1,hv1⟩:∃ v,k*r=v:=⟨_,rfl⟩
     obtain⟨v2,hv2⟩:∃ v,k*s=v:=⟨_,rfl⟩
     obtain⟨v3,hv3⟩:∃ v,k*y=v:=⟨_,rfl⟩
     rw[hv1,hv2,hv3] at hs';have hbd:=hs'.bd;rw[hv3] at m2 m3 m4;have b1 : -3000000000<=v1/\v1<=3000000000 /\ -3000000000<=v2/\v2<=3000000000:=by omega
     obtain⟨b1,b2,b3,b4⟩:=b1;have HS':=hid hs';have m5:v3<=x:=by omega
     have M2:=hid m2;have M3:=hid m3;clear hs' hbd m2 m3
     go_wp2_with (with_reducible refine yR rfl (.tmp 7) (.tmp 68) rfl h p q r s r s (p-v1) (q-v2) rfl rfl HROW.out ?_)
     go_roundw
     case rel=>exact⟨y,x-v3,r,s,p-v1,q-v2,rfl,rfl,HS'.out,HROW.out.set,⟨a',b',c',d',HRES.out.other (by omega)⟩,mH HBEL.out (by omega) _⟩
     case measure=>have:=M2.out; have:=M3.out; simp[intOf]; omega
    ·have hkne:(k != k2)=true:=by simp[hkk]
     go_wp2_with (first | (with_reducible refine vV rfl (.tmp 7) rfl h p q r s rfl HROW.out ?_) | (with_reducible refine yR rfl (.tmp 4) (.tmp 49) rfl w.heap.size a' b' c' d' p q r s rfl rfl HRES.out ?_))
     exact HRET.out _ rfl
end Zn
end Go.Proofs.YtbaihklbefhgdaaGreat
