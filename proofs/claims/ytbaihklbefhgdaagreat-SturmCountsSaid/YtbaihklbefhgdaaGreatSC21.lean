/-
  
-/
import Derived.Test.YtbaihklbefhgdaaGreatSC20
import Derived.Deep.CutBlock
set_option linter.unusedVariables false
set_option linter.unusedSimpArgs false
set_option linter.unusedSectionVars false
namespace Go.Proofs.YtbaihklbefhgdaaGreat
open Go.RowKit
open Go.Lib (hid)
open Dg
namespace Zn
def eL (w:World) (B:Nat) (ds:List Nat):Prop:=bX w B (ds.map Int.ofNat)
theorem eL.cell {w:World} {B:Nat} {ds:List Nat} (h:eL w B ds) {i:Nat} (hi:i<ds.length):w.cell? ⟨B,i,none⟩=some (.int .i64 ((ds.getD i 0:Nat):Int)):=by
 rw[bX.cell h (by simpa using hi),getD_map]
theorem eL.store {w:World} {B:Nat} {ds:List Nat} (h:eL w B ds) (i:Nat) (z:Int) (d:Nat) (hz:z=d):eL (w.setCell ⟨B,i,none⟩ (.int .i64 z)) B (ds.set i d):=by
 have:=bX.store h i z;unfold eL;rw[List.map_set,<- show z=Int.ofNat d from hz];exact this
theorem eL.made {w:World} {B n:Nat} (h:bX w B (List.replicate n 0)):eL w B (List.replicate n 0):=by
 unfold eL;rw[List.map_replicate];exact h
theorem eL.nums {w:World} {B:Nat} {ds:List Nat} (h:eL w B ds) (cap:Nat) (hc:ds.length<=cap) (hm:cap<=maxLen):aL w (.slice (some ⟨B,0,none⟩) ds.length cap) ds :=
 bX.nums h 0 ds.length cap ds rfl hc hm (by simp) fun i _=>by rw[Nat.zero_add,getD_map]
theorem aG4 (ds:List Nat) (m d:Nat):(ds++List.replicate (m+1) 0).set ds.length d=(ds++[d])++List.replicate m 0:=by
 rw[List.set_append_right _ _ (Nat.le_refl _),Nat.sub_self,List.replicate_succ,List.set_cons_zero,List.append_assoc];rfl
theorem aUs (ds:List Nat) (d:Nat):(ds++List.replicate 1 0).set ds.length d=ds++[d]:=by
 rw[aG4]; simp
theorem nT (a:List Nat) (k:Nat):val (a.take (k+1))=val (a.take k)+1000000000^k*a.getD k 0:=by
 rcases Nat.lt_or_ge k a.length with h | h
 ·rw[aG2 h,List.getD_eq_getElem?_getD,List.getElem?_eq_getElem h]; rfl
 ·rw[List.take_of_length_le (by omega),List.take_of_length_le h,List.getD_eq_getElem?_getD,List.getElem?_eq_none h];simp
def jS (p q:Int) (a b:List Nat) (n:Nat) (w:World) (k:Nat) (C:Int) (wr:World):Prop :=
 ∃ ds,ds.length=k/\aP ds/\eL wr w.heap.size (ds++List.replicate (n+1-k) 0)/\Below w.heap.size w wr/\wr.heap.size=w.heap.size+1 /\
  (val ds:Int)+1000000000^k*C=p*(val (a.take k):Int)+q*(val (b.take k):Int) /\ -3000000000<=C/\C<=3000000000
theorem aN3 {p:Int} {x:Nat} (h1 : -1000000000<p) (h2:p<1000000000) (hx:x<1000000000) : -1000000000000000000<=p*(x:Int)/\p*(x:Int)<=1000000000000000000:=by
 have a:=Int.mul_le_mul_of_nonneg_right (show p<=1000000000 by omega) (show (0:Int)<=(x:Int) by omega);have b:=Int.mul_le_mul_of_nonneg_right (show -1000000000<=p by omega) (show (0:Int)<=(x:Int) by omega);omega
theorem jS.step {p q:Int} {a b:List Nat} {n:Nat} {w:World} {k:Nat} {C:Int} {wr:World} {s:Int} (h:jS p q a b n w k C wr) (hk:k<n)
  (hs:s=C+p*((a.getD k 0:Nat):Int)+q*((b.getD k 0:Nat):Int)) (hs1 : -2000000000000000000-3000000000<=s) (hs2:s<=2000000000000000000+3000000000) :
  jS p q a b n w (k+1) (s/1000000000) (wr.setCell ⟨w.heap.size,k,none⟩ (.int .i64 (s%1000000000))):=by
 obtain⟨ds,h1,h2,h3,h4,h5,h6,h7,h8⟩:=h;obtain⟨d,hd⟩:∃ d:Nat,s%1000000000=(d:Int):=⟨(s%1000000000).toNat,by omega⟩
 refine⟨ds++[d],by simp[h1],h2.append (aP.cons (by omega) aP.nil),?_,h4.setCell (by simp) _,by simpa using h5,?_,by omega,by omega⟩
 ·have h9:=h3.store k _ d hd;rw[show n+1-k=n+1-(k+1)+1 by omega] at h9;subst h1;rw[aG4] at h9;exact h9
 ·rw[val_append,h1,nT a,nT b];simp only[val,Nat.mul_zero,Nat.add_zero,Int.natCast_add,Int.natCast_mul,Int.natCast_pow];have e:(d:Int)+1000000000*(s/1000000000)=C+p*((a.getD k 0:Nat):Int)+q*((b.getD k 0:Nat):Int):=by rw[<- hs,<- hd]; omega
  have e2:=congrArg (fun x=>(1000000000:Int)^k*x) e;simp only[Int.mul_add] at e2;rw[Int.pow_succ,Int.mul_add,Int.mul_add];rw[Int.mul_assoc ((1000000000:Int)^k) 1000000000,Int.mul_left_comm p,Int.mul_left_comm q];show (val ds:Int)+1000000000^k*(d:Int)+_=_;generalize (1000000000:Int)^k*(d:Int)=e3 at *;generalize (1000000000:Int)^k*(1000000000*(s/1000000000))=e4 at *;generalize (1000000000:Int)^k*C=e5 at *;generalize (1000000000:Int)^k*(p*((a.getD k 0:Nat):Int))=e6 at *;generalize (1000000000:Int)^k*(q*((b.getD k 0:Nat):Int))=e7 at *;generalize p*((val (a.take k):Nat):Int)=e8 at *;generalize q*((val (b.take k):Nat):Int)=e9 at *;omega
theorem jS.start (p q:Int) (a b:List Nat) (n:Nat) (w:World) (wr:World) (h1:bX wr w.heap.size (List.replicate (n+1) 0)) (h2:Below w.heap.size w wr) (h3:wr.heap.size=w.heap.size+1):jS p q a b n w 0 0 wr :=
 ⟨[],rfl,aP.nil,eL.made h1,h2,h3,by simp[val],by omega,by omega⟩
theorem jS.fin {p q:Int} {a b:List Nat} {n:Nat} {w:World} {C:Int} {wr:World} {N:Nat} (h:jS p q a b n w n C wr) (hla:a.length<=n) (hlb:b.length<=n)
  (hN:(N:Int)=p*(val a:Int)+q*(val b:Int)) (hlt:N<1000000000^(n+1)) (hm:n+1<=maxLen) :
  ∃ ds,aP ds/\aA N=dV ds/\ds.length=n+1/\aL (wr.setCell ⟨w.heap.size,n,none⟩ (.int .i64 C)) (.slice (some ⟨w.heap.size,0,none⟩) (n+1) (n+1)) ds/\Below w.heap.size w (wr.setCell ⟨w.heap.size,n,none⟩ (.int .i64 C)):=by
 obtain⟨ds,h1,h2,h3,h4,h5,h6,h7,h8⟩:=h;rw[List.take_of_length_le hla,List.take_of_length_le hlb,<- hN] at h6;have hv:=mP h2;rw[h1] at hv;have hP:(0:Int)<1000000000^n:=Int.pow_pos (by decide);have hvI:(val ds:Int)<1000000000^n:=by
  have:((val ds:Nat):Int)<((1000000000^n:Nat):Int):=by omega
  rwa[Int.natCast_pow] at this
 have hNI:(N:Int)<1000000000^n*1000000000:=by
  have:((N:Nat):Int)<((1000000000^(n+1):Nat):Int):=by omega
  rwa[Int.natCast_pow,Int.pow_succ] at this
 have hC0:0<=C:=by
  rcases Int.lt_or_le C 0 with h | h
  ·have:=Int.mul_le_mul_of_nonneg_left (show C <= -1 by omega) (Int.le_of_lt hP);rw[Int.mul_neg,Int.mul_one] at this;omega
  ·exact h
 have hC1:C<1000000000:=by
  rcases Int.lt_or_le C 1000000000 with h | h
  ·exact h
  ·have:=Int.mul_le_mul_of_nonneg_left h (Int.le_of_lt hP);omega
 obtain⟨c,rfl⟩:=Int.eq_ofNat_of_zero_le hC0;have h9:=h3.store n _ c rfl;rw[show n+1-n=1 by omega] at h9;have e:((ds++List.replicate 1 0).set n c)=ds++[c]:=by rw[<- h1,aUs]
 rw[e] at h9;refine⟨ds++[c],h2.append (aP.cons (by omega) aP.nil),?_,by simp[h1],?_,h4.setCell (by simp) _⟩
 ·rw[<- nB (h2.append (aP.cons (by omega) aP.nil)),val_append,h1];congr 1;simp only[val,Nat.mul_zero,Nat.add_zero];have:((N:Nat):Int)=((val ds+1000000000^n*c:Nat):Int):=by
   rw[Int.natCast_add,Int.natCast_mul,Int.natCast_pow]; exact h6.symm
  omega
 ·have h10:=h9.nums (n+1) (by simp[h1]) hm;have el:(ds++[c]).length=n+1:=by simp[h1]
  rw[el] at h10;exact h10
theorem jS.cell {p q:Int} {a b:List Nat} {n:Nat} {w:World} {k:Nat} {C:Int} {wr:World} (h:jS p q a b n w k C wr) (hk:k<=n):(∃ v,wr.cell? ⟨w.heap.size,k,none⟩=some v)/\wr.frozen? ⟨w.heap.size,k,none⟩=false:=by
 obtain⟨ds,h1,h2,h3,_⟩:=h;exact⟨⟨_,h3.cell (by simp[h1]; omega)⟩,mW h3 k⟩
theorem jS.bd {p q:Int} {a b:List Nat} {n:Nat} {w:World} {k:Nat} {C:Int} {wr:World} (h:jS p q a b n w k C wr) : -3000000000<=C/\C<=3000000000:=by
 obtain⟨ds,h1,h2,h3,h4,h5,h6,h7,h8⟩:=h;exact⟨h7,h8⟩
theorem jS.bel {p q:Int} {a b:List Nat} {n:Nat} {w:World} {k:Nat} {C:Int} {wr:World} (h:jS p q a b n w k C wr):Below w.heap.size w wr:=by
 obtain⟨ds,h1,h2,h3,h4,h5,h6,h7,h8⟩:=h;exact h4
set_option maxRecDepth 100000 in
set_option maxHeartbeats 4000000 in
theorem oZ (p q:Int) (va vb:Value) (a b:List Nat) (N:Nat) (w:World) (ha:aL w va a) (hb:aL w vb b) (hda:aP a) (hdb:aP b)
  (hp1 : -1000000000<p) (hp2:p<1000000000) (hq1 : -1000000000<q) (hq2:q<1000000000)
  (hN:(N:Int)=p*(val a:Int)+q*(val b:Int)) (hlt:N<1000000000^(max a.length b.length+1)) (hla:a.length<=1099511627776) (hlb:b.length<=1099511627776) :
  Calls Tryz.prog 222 #[.int .i64 p,va,.int .i64 q,vb] w (xM w (aA N)):=by
 obtain⟨i0,hi,hz0,hz1,hz2⟩:=info_parts kR;obtain⟨ao,ac,rfl,a1,a2,a3⟩:=ha;obtain⟨bo,bc,rfl,b1,b2,b3⟩:=hb;have HA:=hid a3;have HB:=hid b3;have HN:=hid hN;have HLT:=hid hlt;clear a3 b3 hN hlt;unfold maxLen at a2 b2;have hal:a.length<=max a.length b.length:=Nat.le_max_left _ _;have hbl:b.length<=max a.length b.length:=Nat.le_max_right _ _;obtain⟨n,hn,hnm⟩:∃ n,n=max a.length b.length/\(n=a.length/\¬ a.length<b.length\/n=b.length/\a.length<b.length):=⟨_,rfl,by omega⟩
 rw[<- hn] at hal hbl HLT;have hnl:n<=1099511627776:=by omega
 clear hn
 go_enter Tryz.func222,Tryz.ntmps222
 rcases hnm with ⟨hn,hmx⟩ | ⟨hn,hmx⟩
 all_goals
  have HNN:=hid hn;clear hn
  go_upto_region 2 with fail
  rw[<- HNN.out]
  go_wp2_with (at_make; refine oX rfl (.tmp 20) (.tmp 20) rfl i0 hi hz0 hz1 hz2 fN _ _ (n+1) rfl rfl (by omega) (by omega) (by omega) ?_)
  intro w1 hrow hbel hsz;have HC:=hid (jS.start p q a b n w w1 hrow hbel hsz);clear hrow hbel hsz;go_wp2
  go_loopw [11,23] (fun c i wr=>∃ (k:Nat) (C:Int),k<=n/\i=.int .i64 k/\c=.int .i64 C/\jS p q a b n w k C wr) (fun _ i _=>n-(intOf i).toNat)
  case atStart=>exact⟨0,0,by omega,rfl,rfl,HC.out⟩
  case round =>
   obtain⟨k,C,hk,rfl,rfl,hrel⟩:=hrel;have HR:=hid hrel;obtain⟨⟨v0,hc⟩,hfz⟩:=hrel.cell hk;obtain⟨hC1,hC2⟩:=hrel.bd;clear hrel;obtain⟨x,hx⟩:∃ x,x=a.getD k 0:=⟨_,rfl⟩
   obtain⟨y,hy⟩:∃ y,y=b.getD k 0:=⟨_,rfl⟩
   have hx9:x<1000000000:=by rw[hx]; exact hda.getD k
   have hy9:y<1000000000:=by rw[hy]; exact hdb.getD k
   obtain⟨px1,px2⟩:=aN3 hp1 hp2 hx9;obtain⟨qy1,qy2⟩:=aN3 hq1 hq2 hy9;have HX:=hid hx;have HY:=hid hy;by_cases hkn:k<n
   ·have HS:Hid (∀ s,s=C+p*(x:Int)+q*(y:Int)->jS p q a b n w (k+1) (s/1000000000) (wr.setCell ⟨w.heap.size,k,none⟩ (.int .i64 (s%1000000000)))) :=
     hid fun s hs=>HR.out.step hkn (by rw[<- HX.out,<- HY.out]; exact hs) (by omega) (by omega)
    clear hx hy;by_cases ka:k<a.length
    ·obtain⟨ab,aoff,rfl,hac⟩:=HA.out (by omega);have hca:=keepCell HR.out.bel (hac k ka);rw[<- HX.out] at hca;clear hac;by_cases kb:k<b.length
     ·obtain⟨bb,boff,rfl,hbc⟩:=HB.out (by omega);have hcb:=keepCell HR.out.bel (hbc k kb);rw[<- HY.out] at hcb;clear hbc
      go_wp2_with (go_at_call 221; refine(wD _ _ (by omega) (by omega)).mono ?_; rintro e w' ⟨rfl,rfl⟩)
      go_roundw
      case rel=>exact⟨k+1,_,by omega,by go_num,rfl,HS.out _ (by omega)⟩
      case measure=>simp[intOf]; omega
     ·first
      | (exfalso; have:=HNN.out; omega)
      | (
        have y0:y=0:=by rw[HY.out,List.getD_eq_getElem?_getD,List.getElem?_eq_none (by omega)]; rfl
        have qy0:q*(y:Int)=0:=by rw[y0]; simp
        have Q0:=hid qy0;clear y0 qy0
        go_wp2_with (go_at_call 221; refine(wD _ _ (by omega) (by omega)).mono ?_; rintro e w' ⟨rfl,rfl⟩)
        go_roundw
        case rel=>exact⟨k+1,_,by omega,by go_num,rfl,HS.out _ (by rw[Q0.out]; omega)⟩
        case measure=>simp[intOf]; omega)
    ·first
     | (exfalso; have:=HNN.out; omega)
     | (
       have x0:x=0:=by rw[HX.out,List.getD_eq_getElem?_getD,List.getElem?_eq_none (by omega)]; rfl
       have px0:p*(x:Int)=0:=by rw[x0]; simp
       have P0:=hid px0;clear x0 px0;have kb:k<b.length:=by have:=HNN.out; omega
       obtain⟨bb,boff,rfl,hbc⟩:=HB.out (by omega);have hcb:=keepCell HR.out.bel (hbc k kb);rw[<- HY.out] at hcb;clear hbc
       go_wp2_with (go_at_call 221; refine(wD _ _ (by omega) (by omega)).mono ?_; rintro e w' ⟨rfl,rfl⟩)
       go_roundw
       case rel=>exact⟨k+1,_,by omega,by go_num,rfl,HS.out _ (by rw[P0.out]; omega)⟩
       case measure=>simp[intOf]; omega)
   ·clear hx hy;obtain rfl:k=n:=by omega
    obtain⟨ds,hd1,hd2,hd3,hd4,hd5⟩:=HR.out.fin hal hbl HN.out HLT.out (by unfold maxLen; omega);have HD2:=hid hd2;have HD3:=hid hd3;have HD4:=hid hd4;have HD5:=hid hd5;clear hd2 hd3 hd4 hd5
    go_wp2_with fail
    refine(uA _ ds _ HD4.out).mono ?_;rintro e w' ⟨v',rfl,rfl,hn⟩;have HV:=hid (hn _ HD4.out);clear hn;go_wp2
    go_ret
    exact⟨v',rfl,by rw[HD2.out]; exact HV.out,HD5.out⟩
def kN (a b:List Nat) (w:World) (i k c:Nat) (wr:World):Prop :=
 ∃ zs,zs.length=a.length+b.length/\aP zs/\eL wr w.heap.size zs/\Below w.heap.size w wr/\wr.heap.size=w.heap.size+1/\c<1000000000 /\
  val zs+1000000000^(i+k)*c=val (a.take i)*val b+1000000000^i*(a.getD i 0*val (b.take k))/\∀ j,i+b.length<=j->zs.getD j 0=0
def lV (a b:List Nat) (w:World) (i:Nat) (wr:World):Prop :=
 ∃ zs,zs.length=a.length+b.length/\aP zs/\eL wr w.heap.size zs/\Below w.heap.size w wr/\wr.heap.size=w.heap.size+1 /\
  val zs=val (a.take i)*val b/\∀ j,i+b.length<=j->zs.getD j 0=0
theorem lV.inner {a b:List Nat} {w wr:World} {i:Nat} (h:lV a b w i wr):kN a b w i 0 0 wr:=by
 obtain⟨zs,h1,h2,h3,h4,h5,h6,h7⟩:=h;exact⟨zs,h1,h2,h3,h4,h5,by omega,by simp[val,h6],h7⟩
theorem lV.start {a b:List Nat} {w wr:World} (h1:bX wr w.heap.size (List.replicate (a.length+b.length) 0)) (h2:Below w.heap.size w wr) (h3:wr.heap.size=w.heap.size+1):lV a b w 0 wr:=by
 refine⟨_,by simp,aP.replicate _,eL.made h1,h2,h3,by simp[aG3,val],fun j _=>?_⟩;rw[List.getD_eq_getElem?_getD,List.getElem?_replicate];split<;>rfl
theorem kN.cell {a b:List Nat} {w wr:World} {i k c:Nat} (h:kN a b w i k c wr) (hj:i+k<a.length+b.length):∃ z:Nat,z<1000000000/\wr.cell? ⟨w.heap.size,i+k,none⟩=some (.int .i64 (z:Int))/\wr.frozen? ⟨w.heap.size,i+k,none⟩=false /\
  (∀ v,v=z+a.getD i 0*b.getD k 0+c->k<b.length->v/1000000000<1000000000->kN a b w i (k+1) (v/1000000000) (wr.setCell ⟨w.heap.size,i+k,none⟩ (.int .i64 ((v:Int)%1000000000)))):=by
 obtain⟨zs,h1,h2,h3,h4,h5,h6,h7,h8⟩:=h;refine⟨zs.getD (i+k) 0,h2.getD _,h3.cell (by omega),mW h3 _,fun v hv hk hc=>?_⟩;refine⟨zs.set (i+k) (v%1000000000),by simpa using h1,h2.set _ _ (by omega),h3.store _ _ _ (by omega),h4.setCell (by simp) _,by simpa using h5,hc,?_,?_⟩
 ·have e:=aL1 (a:=zs) (k:=i+k) (by omega) (v%1000000000);have e0:zs.getD (i+k) 0=zs[i+k]'(by omega):=by rw[List.getD_eq_getElem?_getD,List.getElem?_eq_getElem (by omega)]; rfl
  rw[<- e0] at e;rw[nT b k];generalize zs.getD (i+k) 0=z at *;generalize val (zs.set (i+k) (v%1000000000))=V at *;rw[show i+(k+1)=i+k+1 from rfl,Nat.pow_succ];have e2:((1000000000:Int)^(i+k))=((1000000000^(i+k):Nat):Int):=by rw[Int.natCast_pow]; rfl
  rw[e2] at e;rw[Nat.mul_add,Nat.mul_add];rw[show 1000000000^i*(a.getD i 0*(1000000000^k*b.getD k 0))=1000000000^(i+k)*(a.getD i 0*b.getD k 0) by rw[Nat.pow_add,Nat.mul_left_comm (a.getD i 0),Nat.mul_assoc]];rw[<- Nat.add_assoc,<- h7];generalize 1000000000^(i+k)=P at *;generalize a.getD i 0*b.getD k 0=xy at *;have e3:(P:Int)*(((v%1000000000:Nat):Int)-(z:Int))+((P*(1000000000*(v/1000000000)):Nat):Int)=((P*xy:Nat):Int)+((P*c:Nat):Int):=by
   rw[Int.natCast_mul P (1000000000*(v/1000000000)),Int.natCast_mul P xy,Int.natCast_mul P c,<- Int.mul_add,<- Int.mul_add];congr 1;omega
  rw[Nat.mul_assoc];generalize P*(1000000000*(v/1000000000))=Q1 at *;generalize P*xy=Q2 at *;generalize P*c=Q3 at *;generalize (P:Int)*(((v%1000000000:Nat):Int)-(z:Int))=Q4 at *;omega
 ·intro j hj;have:=h8 j hj;rw[List.getD_eq_getElem?_getD] at this |-;rw[List.getElem?_set_ne (by omega)];exact this
theorem kN.cellOut {a b:List Nat} {w wr:World} {i c:Nat} (h:kN a b w i b.length c wr) (hi:i<a.length):(∃ v,wr.cell? ⟨w.heap.size,i+b.length,none⟩=some v)/\wr.frozen? ⟨w.heap.size,i+b.length,none⟩=false/\lV a b w (i+1) (wr.setCell ⟨w.heap.size,i+b.length,none⟩ (.int .i64 (c:Int))):=by
 obtain⟨zs,h1,h2,h3,h4,h5,h6,h7,h8⟩:=h;refine⟨⟨_,h3.cell (by omega)⟩,mW h3 _,?_⟩;refine⟨zs.set (i+b.length) c,by simpa using h1,h2.set _ _ h6,h3.store _ _ _ rfl,h4.setCell (by simp) _,by simpa using h5,?_,?_⟩
 ·have e:=aL1 (a:=zs) (k:=i+b.length) (by omega) c;have e0:zs.getD (i+b.length) 0=zs[i+b.length]'(by omega):=by rw[List.getD_eq_getElem?_getD,List.getElem?_eq_getElem (by omega)]; rfl
  rw[<- e0,h8 _ (Nat.le_refl _)] at e;rw[nT a i,Nat.add_mul,Nat.mul_assoc];rw[List.take_of_length_le (Nat.le_refl _)] at h7;rw[<- h7];have e2:((1000000000:Int)^(i+b.length))=((1000000000^(i+b.length):Nat):Int):=by rw[Int.natCast_pow]; rfl
  rw[e2] at e;generalize val (zs.set (i+b.length) c)=V at *;generalize 1000000000^(i+b.length)=P at *;rw[show ((c:Nat):Int)-((0:Nat):Int)=(c:Int) by omega,<- Int.natCast_mul] at e;omega
 ·intro j hj;have:=h8 j (by omega);rw[List.getD_eq_getElem?_getD] at this |-;rw[List.getElem?_set_ne (by omega)];exact this
theorem kN.bel {a b:List Nat} {w wr:World} {i k c:Nat} (h:kN a b w i k c wr):Below w.heap.size w wr/\c<1000000000:=by
 obtain⟨zs,h1,h2,h3,h4,h5,h6,h7,h8⟩:=h;exact⟨h4,h6⟩
theorem lV.bel {a b:List Nat} {w wr:World} {i:Nat} (h:lV a b w i wr):Below w.heap.size w wr:=by
 obtain⟨zs,h1,h2,h3,h4,h5,h6,h7⟩:=h;exact h4
theorem lV.fin {a b:List Nat} {w wr:World} (h:lV a b w a.length wr) (hm:a.length+b.length<=maxLen):∃ zs,aP zs/\aA (val a*val b)=dV zs/\aL wr (.slice (some ⟨w.heap.size,0,none⟩) (a.length+b.length) (a.length+b.length)) zs/\Below w.heap.size w wr:=by
 obtain⟨zs,h1,h2,h3,h4,h5,h6,h7⟩:=h;rw[List.take_of_length_le (Nat.le_refl _)] at h6;refine⟨zs,h2,by rw[<- h6,nB h2],?_,h4⟩;rw[<- h1];exact h3.nums _ (Nat.le_refl _) (by omega)
theorem aMe {x y:Nat} (hx:x<1000000000) (hy:y<1000000000):(0:Int)<=(x:Int)*(y:Int)/\(x:Int)*(y:Int)<=999999998000000001:=by
 have h:=Nat.mul_le_mul (show x<=999999999 by omega) (show y<=999999999 by omega);have e:((x*y:Nat):Int)=(x:Int)*(y:Int):=Int.natCast_mul ..;rw[<- e];omega
set_option maxRecDepth 100000 in
set_option maxHeartbeats 4000000 in
theorem aSh (va vb:Value) (a b:List Nat) (w:World) (ha:aL w va a) (hb:aL w vb b) (hda:aP a) (hdb:aP b) (hla:a.length<=1099511627776) (hlb:b.length<=1099511627776) :
  Calls Tryz.prog 196 #[va,vb] w (xM w (aA (val a*val b))):=by
 obtain⟨i0,hi,hz0,hz1,hz2⟩:=info_parts kR;obtain⟨ao,ac,rfl,a1,a2,a3⟩:=ha;obtain⟨bo,bc,rfl,b1,b2,b3⟩:=hb;have HA:=hid a3;have HB:=hid b3;clear a3 b3;unfold maxLen at a2 b2
 go_enter Tryz.func196,Tryz.ntmps196
 go_wp2_with (at_make; refine oX rfl (.tmp 15) (.tmp 15) rfl i0 hi hz0 hz1 hz2 fN _ _ (a.length+b.length) rfl rfl (by omega) (by omega) (by omega) ?_)
 intro w1 hrow hbel hsz;have HC:=hid (lV.start hrow hbel hsz);clear hrow hbel hsz;go_wp2
 go_loopw [19] (fun i wr=>∃ k:Nat,k<=a.length/\i=.int .i64 k/\lV a b w k wr) (fun i _=>a.length-(intOf i).toNat)
 case atStart=>exact⟨0,by omega,rfl,HC.out⟩
 case round =>
  obtain⟨i,hik,rfl,hrel⟩:=hrel;have HR:=hid hrel;clear hrel;by_cases hia:i<a.length
  ·obtain⟨ab,aoff,rfl,hac⟩:=HA.out (by omega);have hca:=keepCell HR.out.bel (hac i hia);obtain⟨x,hx⟩:∃ x,x=a.getD i 0:=⟨_,rfl⟩
   have hx9:x<1000000000:=by rw[hx]; exact hda.getD i
   rw[<- hx] at hca;have HX:=hid hx;have HI:=hid HR.out.inner;clear hac hx;go_wp2
   go_loopw [8,26] (fun c j wr=>∃ k c':Nat,k<=b.length/\j=.int .i64 k/\c=.int .i64 c'/\kN a b w i k c' wr) (fun _ j _=>b.length-(intOf j).toNat)
   case atStart=>exact⟨0,0,by omega,rfl,rfl,HI.out⟩
   case round =>
    obtain⟨k,c,hkb,rfl,rfl,hrel⟩:=hrel;have HT:=hid hrel;have hc9:=hrel.bel.2;clear hrel;by_cases hk:k<b.length
    ·obtain⟨bb,boff,rfl,hbc⟩:=HB.out (by omega);have hcb:=keepCell HT.out.bel.1 (hbc k hk);obtain⟨y,hy⟩:∃ y,y=b.getD k 0:=⟨_,rfl⟩
     have hy9:y<1000000000:=by rw[hy]; exact hdb.getD k
     rw[<- hy] at hcb;obtain⟨xy1,xy2⟩:=aMe hx9 hy9;obtain⟨z,hz9,hcz,hfz,hnext⟩:=HT.out.cell (show i+k<a.length+b.length by omega);rw[<- HX.out,<- hy] at hnext;have HN:Hid (∀ s:Int,s=(z:Int)+(x:Int)*(y:Int)+(c:Int)->∃ c':Nat,s/1000000000=(c':Int)/\kN a b w i (k+1) c' (wr.setCell ⟨w.heap.size,i+k,none⟩ (.int .i64 (s%1000000000)))):=by
      refine hid fun s hs=>?_;have e:s=((z+x*y+c:Nat):Int):=by rw[hs,Int.natCast_add,Int.natCast_add,Int.natCast_mul]
      refine⟨(z+x*y+c)/1000000000,by rw[e]; omega,?_⟩;rw[e];have hxy:((x*y:Nat):Int)<=999999998000000001:=by rw[Int.natCast_mul]; exact xy2
      exact hnext _ rfl hk (by omega)
     clear hbc hy hnext
     go_wp2_with (go_at_call 221; refine(wD _ _ (by omega) (by omega)).mono ?_; rintro e w' ⟨rfl,rfl⟩)
     obtain⟨c',hc',hT⟩:=HN.out _ rfl
     go_roundw
     case rel=>exact⟨k+1,c',by omega,by go_num,by rw[hc'],hT⟩
     case measure=>simp[intOf]; omega
    ·obtain rfl:k=b.length:=by omega
     obtain⟨⟨v0,hc⟩,hfz,hO⟩:=HT.out.cellOut hia;have HO:=hid hO;clear hO;go_wp2
     go_roundw
     case rel=>exact⟨i+1,by omega,by go_num,HO.out⟩
     case measure=>simp[intOf]; omega
  ·obtain rfl:i=a.length:=by omega
   obtain⟨zs,hz1',hz2',hz3',hz4'⟩:=HR.out.fin (by unfold maxLen; omega);have HZ2:=hid hz2';have HZ3:=hid hz3';have HZ4:=hid hz4';clear hz2' hz3' hz4'
   go_wp2_with fail
   refine(uA _ zs _ HZ3.out).mono ?_;rintro e w' ⟨v',rfl,rfl,hn⟩;have HV:=hid (hn _ HZ3.out);clear hn;go_wp2
   go_ret
   exact⟨v',rfl,by rw[HZ2.out]; exact HV.out,HZ4.out⟩
theorem aWe (w:World) (x y:Value) (T:TypeId):(w.alloc (.cells #[x,y] T)).heap[w.heap.size]?=some (.cells #[x,y] T (0,0)):=heap_alloc_new w _
theorem bS {w w':World} {g:Nat} {o:Obj} (hb:Below w.heap.size w w') (h:w.heap[g]?=some o):w'.heap[g]?=some o:=by
 have hl:g<w.heap.size:=by
  rcases Nat.lt_or_ge g w.heap.size with h1 | h1
  ·exact h1
  ·rw[Array.getElem?_eq_none (by omega)] at h; cases h
 exact(hb.block g hl).trans h
theorem bQ {w:World} {g:Nat} {x y:Value} {T:TypeId} (h:w.heap[g]?=some (.cells #[x,y] T (0,0))):w.cell? ⟨g,0,none⟩=some x/\w.cell? ⟨g,1,none⟩=some y/\w.frozen? ⟨g,0,none⟩=false/\w.frozen? ⟨g,1,none⟩=false :=
 ⟨cell_of_row _ _ 0 _ _ _ h,cell_of_row _ _ 1 _ _ _ h,frozen_of_row _ _ _ _ _ h,frozen_of_row _ _ _ _ _ h⟩
theorem mH {B:Nat} {a w:World} (h:Below B a w) {g:Nat} (hg:B<=g) (cs:Array Value):Below B a (w.setRow g cs) :=
 h.trans ⟨rfl,rfl,rfl,by simp[World.setRow],fun k hk=>setRow_other w g k cs (by omega)⟩
def bW (w:World) (g:Nat):Prop:=∃ x y z n,w.heap[g]?=some (.cells #[.bool x,.slice y z n] 28 (0,0))
theorem bW.keep {w w':World} {g:Nat} (h:bW w g) (hb:Below w.heap.size w w'):bW w' g:=by
 obtain⟨x,y,z,n,h⟩:=h;exact⟨x,y,z,n,bS hb h⟩
theorem bW.new (w:World) (x:Bool) (y:Option Addr) (z n:Nat):bW (w.alloc (.cells #[.bool x,.slice y z n] 28)) w.heap.size:=⟨x,y,z,n,aWe w _ _ _⟩
theorem aL.apart {w:World} {v:Value} {ds:List Nat} {g:Nat} (h:aL w v ds) (hg:bW w g) (cs:Array Value):aL (w.setRow g cs) v ds:=by
 obtain⟨ao,cap,rfl,h1,h2,h3⟩:=h;refine⟨ao,cap,rfl,h1,h2,fun hl=>?_⟩;obtain⟨b,off,rfl,hc⟩:=h3 hl;refine⟨b,off,rfl,fun i hi=>?_⟩;have h4:=hc i hi;by_cases e:b=g
 ·exfalso;subst e;obtain⟨x,y,z,n,hg⟩:=hg;rw[cell_of_row _ _ _ _ _ (0,0) hg] at h4;rcases (show off+i=0\/off+i=1\/2<=off+i by omega) with e | e | e
  ·rw[e] at h4; cases h4
  ·rw[e] at h4; cases h4
  ·rw[Array.getElem?_eq_none (by simpa using e)] at h4; cases h4
 ·rw[World.cell?_of_block (w:=w) (setRow_other w g b cs e)];exact h4
theorem aW.apart {w:World} {v:Value} {z:Int} {g:Nat} (h:aW w v z) (hg:bW w g) (cs:Array Value):aW (w.setRow g cs) v z:=by
 obtain⟨s,h1,h2⟩:=h;exact⟨s,h1,h2.apart hg cs⟩
theorem aW.form {w:World} {v:Value} {z:Int} (h:aW w v z):∃ so n sc,v=.agg #[.bool (decide (z<0)),.slice so n sc]/\n=(aA z.natAbs).length:=by
 obtain⟨s,rfl,so,sc,rfl,_⟩:=h;exact⟨so,_,sc,rfl,rfl⟩
theorem qE:(Tryz.prog.info? 28).map (·.size)=some 2:=by kernel_rfl
theorem vU:(Tryz.prog.underlying 28).map (fun d=>match d with | .struct _=>true | _=>false)=some true:=by kernel_rfl
theorem rX {o:Option TypeDesc} (h:o.map (fun d=>match d with | .struct _=>true | _=>false)=some true):∃ d,o=some d/\(match d with | .struct _ | .array _ _=>true | _=>false)=true:=by
 cases o with
 | none=>cases h
 | some d=>exact⟨d,rfl,by cases d<;>first | rfl | cases h⟩
theorem eT {ops:Array Oper} {rest:List Oper} {o:Oper} {a:Act} {w:World} {Q:Exit->Act->World->Prop} (hgd:o.guard=none) (x y:Operand) (ho:o.op=.store 28 x y)
  (g:Nat) (v:Value) (z:Int) (hx:a.eval x=.pointer (some ⟨g,0,none⟩)) (hy:a.eval y=v) (hv:aW w v z) (hg:bW w g)
  (h:wpList Tryz.prog ops Q rest (a.put o.dst undef) (w.setRow g v.cells)):wpList Tryz.prog ops Q (o::rest) a w:=by
 obtain⟨so,n,sc,rfl,_⟩:=hv.form;obtain⟨_,_,_,_,hg⟩:=hg;exact wpList_store_row hgd 28 x y ho g _ hx hy 28 _ hg qE rfl (by simp[Value.oneCell']) h
theorem qG {fn:Func} {p:Tmp} (h:fn.results=#[.cell p 28]) {a:Act} {w0 w:World} {g:Nat} {v:Value} {z:Int} (hd:a.defers=[]) (hp:a.tmps.getD p undef=.pointer (some ⟨g,0,none⟩))
  (hg:bW w g) (hv:aW w v z) (hb:Below w0.heap.size w0 w) (hB:w0.heap.size<=g):bodyPost Tryz.prog fn (fF w0 z) .ret a (w.setRow g v.cells):=by
 obtain⟨d,hd1,hd2⟩:=rX vU;have hv2:=hv.apart hg v.cells;obtain⟨so,n,sc,rfl,_⟩:=hv.form;obtain⟨_,_,_,_,hg⟩:=hg;refine bodyPost_ret (results_cell_row h _ _ g 28 _ (0,0) d hp (setRow_heap _ _ _ _ _ _ hg) hd1 (by cases d<;>first | rfl | cases hd2) qE) hd ?_;exact⟨_,rfl,hv2,mH hb hB _⟩
theorem mE {fn:Func} {p:Tmp} (h:fn.results=#[.cell p 28]) {tmps:Array Value} {w0 w:World} {g:Nat} {v:Value} {z:Int} (hp:tmps.getD p undef=.pointer (some ⟨g,0,none⟩))
  (hg:bW w g) (hv:aW w v z) (hb:Below w0.heap.size w0 w) (hB:w0.heap.size<=g):bodyPost Tryz.prog fn (fF w0 z) .ret ⟨tmps,[]⟩ (w.setRow g v.cells) :=
 qG h rfl hp hg hv hb hB
set_option maxHeartbeats 1000000 in
theorem aS5 (v:Value) (z:Int) (neg:Bool) (d:Value) (m:Nat) (w:World) (hv:aW w v z) (hd:aL w d (aA m)) (hneg:neg=decide (z<0)) (hl1:(aA z.natAbs).length<=1099511627776) (hl2:(aA m).length<=1099511627776) :
  Calls Tryz.prog 198 #[v,.bool neg,d] w (fF w (z+mk neg m)):=by
 obtain⟨s,rfl,hs⟩:=hv;have hne:(decide (z<0)==neg)=true:=by rw[hneg]; simp
 have hval:((z.natAbs+m:Nat):Int)=1*(val (aA z.natAbs):Int)+1*(val (aA m):Int):=by rw[aX,aX]; omega
 have hlt:z.natAbs+m<1000000000^(max (aA z.natAbs).length (aA m).length+1):=fG.1 (wH _ _);have hmk:mk neg (z.natAbs+m)=z+mk neg m:=by
  subst hneg;unfold mk;rcases Int.lt_or_le z 0 with h | h
  ·simp only[h,decide_true,if_true]; omega
  ·simp only[show ¬ z<0 by omega,decide_false,Bool.false_eq_true,if_false]; omega
 rw[<- hmk];have HS:=hid hs;have HD:=hid hd;generalize decide (z<0)=b at *;have HX:=hid (oZ 1 1 s d _ _ _ · · · (bF z.natAbs) (bF m) (by decide) (by decide) (by decide) (by decide) hval hlt hl1 hl2);clear hval hlt hmk hneg hs hd;have HB0:=hid (show Below w.heap.size w ((w.alloc (Obj.cells #[Value.bool b,s] 28)).alloc (Obj.cells #[Value.bool false,Value.slice none 0 0] 28)) from ((Below.refl _ _).alloc (Nat.le_refl _) _).alloc (by simp) _)
 go_enter Tryz.func198,Tryz.ntmps198
 go_wp2_with fail
 refine(HX.out _ (HS.out.keep HB0.out) (HD.out.keep HB0.out)).mono ?_;rintro e w1 ⟨v1,rfl,hn1,hb1⟩;have HN1:=hid hn1;have HB1:=hid hb1;clear hn1 hb1
 go_wp2_with fail
 refine(kS neg v1 _ _ HN1.out (bF _)).mono ?_;rintro e w2 ⟨v2,rfl,hv2,hb2⟩;rw[aX] at hv2;have HV2:=hid hv2;have HR:=hid (show bW w2 (w.heap.size+1) by
  have h:=((bW.new (w.alloc (Obj.cells #[Value.bool b,s] 28)) false none 0 0).keep HB1.out).keep hb2;rwa[show (w.alloc (Obj.cells #[Value.bool b,s] 28)).heap.size=w.heap.size+1 by simp] at h)
 have HB:=hid (Pu.aO HB0.out (Pu.aO HB1.out hb2));clear hv2 hb2
 go_wp2_with (with_reducible refine eT rfl (.tmp 6) (.tmp 16) rfl (w.heap.size+1) v2 _ rfl rfl HV2.out HR.out ?_)
 exact mE rfl rfl HR.out HV2.out HB.out (by omega)
def Row (k:IntKind) (w:World) (v:Value) (zs:List Int):Prop :=
 ∃ ao cap,v=.slice ao zs.length cap/\zs.length<=cap/\cap<=maxLen/\(0<zs.length->∃ b off,ao=some ⟨b,off,none⟩/\∀ i,i<zs.length->w.cell? ⟨b,off+i,none⟩=some (.int k (zs.getD i 0)))
theorem Row.keep {k:IntKind} {w w':World} {v:Value} {zs:List Int} (h:Row k w v zs) (hb:Below w.heap.size w w'):Row k w' v zs:=by
 obtain⟨ao,cap,h1,h2,h3,h4⟩:=h;refine⟨ao,cap,h1,h2,h3,fun hl=>?_⟩;obtain⟨b,off,h5,h6⟩:=h4 hl;exact⟨b,off,h5,fun i hi=>keepCell hb (h6 i hi)⟩
def vQ (k:IntKind) (w:World) (v:Value) (z:Int):Prop:=∃ g,v=.slice (some ⟨g,0,none⟩) 1 1/\w.cell? ⟨g,0,none⟩=some (.int k z)
theorem vQ.keep {k:IntKind} {w w':World} {v:Value} {z:Int} (h:vQ k w v z) (hb:Below w.heap.size w w'):vQ k w' v z:=by
 obtain⟨g,h1,h2⟩:=h;exact⟨g,h1,keepCell hb h2⟩
inductive Sp where
 | any
 | eq (v:Value)
 | int (z:Int)
 | nums (ds:List Nat)
 | two (y z:Int)
 | twoN (a b:List Nat)
 | intB (z:Int) (b:Bool)
 | intE (z:Int) (e:Int)
 | vals (n:Nat)
 | row (k:IntKind) (zs:List Int)
 | one (k:IntKind) (z:Int)
 | gen (p:World->Value->Prop) (hk:∀ w w' v,p w v->Below w.heap.size w w'->p w' v) (ha:∀ w v g cs,p w v->bW w g->p (w.setRow g cs) v)
def Sp.is:Sp->World->Value->Prop
 | .any,_,_=>True
 | .eq v,_,x=>x=v
 | .int z,w,x=>aW w x z
 | .nums ds,w,x=>aL w x ds
 | .two y z,w,x=>∃ s t,x=.tuple #[s,t]/\aW w s y/\aW w t z
 | .twoN a b,w,x=>∃ s t,x=.tuple #[s,t]/\aL w s a/\aL w t b
 | .intB z b,w,x=>∃ s,x=.tuple #[s,.bool b]/\aW w s z
 | .intE z e,w,x=>∃ s,x=.tuple #[s,.int .i64 e]/\aW w s z
 | .vals n,w,x=>∃ ds,aL w x ds/\aP ds/\val ds=n
 | .row k zs,w,x=>Row k w x zs
 | .one k z,w,x=>vQ k w x z
 | .gen p _ _,w,x=>p w x
theorem Sp.keep {s:Sp} {w w':World} {v:Value} (h:s.is w v) (hb:Below w.heap.size w w'):s.is w' v:=by
 cases s with
 | any=>trivial
 | eq x=>exact h
 | int z=>exact aW.keep h hb
 | nums ds=>exact aL.keep h hb
 | two y z=>obtain⟨s,t,h1,h2,h3⟩:=h; exact⟨s,t,h1,h2.keep hb,h3.keep hb⟩
 | twoN y z=>obtain⟨s,t,h1,h2,h3⟩:=h; exact⟨s,t,h1,h2.keep hb,h3.keep hb⟩
 | intB y z=>obtain⟨s,h1,h2⟩:=h; exact⟨s,h1,h2.keep hb⟩
 | intE y z=>obtain⟨s,h1,h2⟩:=h; exact⟨s,h1,h2.keep hb⟩
 | vals n=>obtain⟨ds,h1,h2⟩:=h; exact⟨ds,h1.keep hb,h2⟩
 | row k zs=>exact Row.keep h hb
 | one k z=>exact vQ.keep h hb
 | gen p hk ha=>exact hk _ _ _ h hb
def look:List (Nat × Sp)->Nat->Sp
 | [],_=>.any
 | (k,s)::r,t=>bif Nat.beq k t then s else look r t
def gN (l:List (Nat × Sp)) (t:Nat) (w:World) (v:Value):Prop:=(look l t).is w v
theorem gN.keep (l:List (Nat × Sp)) (t:Nat) (w w2:World) (v:Value) (h:gN l t w v) (hb:Below w.heap.size w w2):gN l t w2 v:=Sp.keep h hb
theorem bG {P:Program} {ops:Array Oper} {S:Nat->World->Value->Prop} {Q:Exit->Act->World->Prop} {o:Oper} {a:Act} {w:World} (hg:Region.wanted o (yielded ops a.tmps)=true)
  (h:∀ K:Act->World->Prop,(∀ v w',Below w.heap.size w w'->(∀ d,o.dst=some d->S d w' v)->K (a.put o.dst v) w')->o.wp P a w K Q):Pu.aGl P ops S Q o a w :=
 .inl ⟨hg,h _ fun v _ hb hv=>⟨v,rfl,hb,hv⟩⟩
theorem sV {o:Oper} {a:Act} {w:World} {K:Act->World->Prop} {Q:Exit->Act->World->Prop} (x y:Operand) (ho:o.op=.store 28 x y)
  (g:Nat) (v:Value) (z:Int) (hx:a.eval x=.pointer (some ⟨g,0,none⟩)) (hy:a.eval y=v) (hv:aW w v z) (hg:bW w g)
  (h:K (a.put o.dst undef) (w.setRow g v.cells)):o.wp Tryz.prog a w K Q:=by
 obtain⟨so,n,sc,rfl,_⟩:=hv.form;obtain⟨_,_,_,_,hg⟩:=hg;exact wp_store_row 28 x y ho g _ hx hy 28 _ hg qE rfl (by simp[Value.oneCell']) h
theorem aN4 {z:Int} {neg:Bool} {m:Nat} (hneg:neg≠decide (z<0)) (h:m<=z.natAbs):mk (decide (z<0)) (z.natAbs-m)=z+mk neg m:=by
 unfold mk;rcases Int.lt_or_le z 0 with h1 | h1
 ·simp only[h1,decide_true] at hneg |-;cases neg
  ·simp; omega
  ·exact absurd rfl hneg
 ·simp only[show ¬ z<0 by omega,decide_false] at hneg |-;cases neg
  ·exact absurd rfl hneg
  ·simp; omega
theorem aMl {z:Int} {neg:Bool} {m:Nat} (hneg:neg≠decide (z<0)) (h:z.natAbs<m):mk neg (m-z.natAbs)=z+mk neg m:=by
 unfold mk;rcases Int.lt_or_le z 0 with h1 | h1
 ·simp only[h1,decide_true] at hneg;cases neg
  ·simp; omega
  ·exact absurd rfl hneg
 ·simp only[show ¬ z<0 by omega,decide_false] at hneg;cases neg
  ·exact absurd rfl hneg
  ·simp; omega
set_option maxHeartbeats 1000000 in
theorem aU9 (v:Value) (z:Int) (neg:Bool) (d:Value) (m:Nat) (w:World) (hv:aW w v z) (hd:aL w d (aA m)) (hneg:neg≠decide (z<0)) (hlt:m<=z.natAbs) (hl1:(aA z.natAbs).length<=1099511627776) (hl2:(aA m).length<=1099511627776) :
  Calls Tryz.prog 198 #[v,.bool neg,d] w (fF w (z+mk neg m)):=by
 obtain⟨s,rfl,hs⟩:=hv;have hne:(decide (z<0)==neg)=false:=by cases neg<;>simp_all
 have hc:decide (bA z.natAbs m<0)=false:=by unfold bA; rw[if_neg (by omega)]; split<;>rfl
 have HC:=hid (wC s d z.natAbs m · · ·);have hval:((z.natAbs-m:Nat):Int)=1*(val (aA z.natAbs):Int)+(-1)*(val (aA m):Int):=by rw[aX,aX]; omega
 have hlt2:z.natAbs-m<1000000000^(max (aA z.natAbs).length (aA m).length+1):=fG.1 (Nat.le_trans (dW (Nat.le_add_right (z.natAbs-m) (m+m))) (by have:=wH z.natAbs m; rw[show z.natAbs-m+(m+m)=z.natAbs+m by omega]; exact this));have HX:=hid (oZ 1 (-1) s d _ _ _ · · · (bF z.natAbs) (bF m) (by decide) (by decide) (by decide) (by decide) hval hlt2 hl1 hl2);rw[<- aN4 hneg hlt];clear hval hlt2;generalize decide (z<0)=b at *;have HS:=hid hs;have HD:=hid hd;clear hs hd;have HB0:=hid (show Below w.heap.size w ((w.alloc (Obj.cells #[Value.bool b,s] 28)).alloc (Obj.cells #[Value.bool false,Value.slice none 0 0] 28)) from ((Below.refl _ _).alloc (Nat.le_refl _) _).alloc (by simp) _);have HQ0:=hid (show ((w.alloc (Obj.cells #[Value.bool b,s] 28)).alloc (Obj.cells #[Value.bool false,Value.slice none 0 0] 28)).heap[w.heap.size]?=some (.cells #[.bool b,s] 28 (0,0)) from bS ((Below.refl _ _).alloc (Nat.le_refl _) _) (heap_alloc_new w _));have HR0:=hid (show bW ((w.alloc (Obj.cells #[Value.bool b,s] 28)).alloc (Obj.cells #[Value.bool false,Value.slice none 0 0] 28)) (w.heap.size+1) by
  have h:=bW.new (w.alloc (Obj.cells #[Value.bool b,s] 28)) false none 0 0;rwa[show (w.alloc (Obj.cells #[Value.bool b,s] 28)).heap.size=w.heap.size+1 by simp] at h)
 go_enter Tryz.func198,Tryz.ntmps198
 go_upto_region 5 with ((go_at_call 188; refine(HC.out _ (HS.out.keep HB0.out) (HD.out.keep HB0.out)).mono ?_; rintro e w1 ⟨rfl,hb1⟩))
 have HB1:=hid (Pu.aO HB0.out hb1);have HQ1:=hid (bS hb1 HQ0.out);have HR1:=hid (HR0.out.keep hb1);clear hb1;rename_i hret;refine Pu.rP 7 (gN [(28,.eq (.pointer (some ⟨w.heap.size,0,none⟩))),(29,.eq (.bool b)),(30,.eq (.pointer (some ⟨w.heap.size,1,none⟩))),(31,.eq (s)),(32,.eq (d)),(33,.nums (aA (z.natAbs-m))),(34,.int (mk b (z.natAbs-m)))]) (by kernel_rfl) (by kernel_rfl) (by kernel_rfl) (fun hfn=>by kernel_rfl) (gN.keep _) ?_ ?_ ?_
 ·intro L a w2 i o ho hne2 hL hdep hI;have hi:i<8:=(Array.getElem?_eq_some_iff.1 ho).1;rcases (show i=0\/i=1\/i=2\/i=3\/i=4\/i=5\/i=6 by omega) with rfl | rfl | rfl | rfl | rfl | rfl | rfl
  ·cases (Option.some.inj (show some _=some o from ho));have h3:a.tmps.getD 3 undef=.pointer (some ⟨w.heap.size,0,none⟩):=hI.free (t:=3) (by kernel_rfl);refine bG rfl fun K hK=>?_;clear hdep hI ho hi;go_simp;exact hK _ _ (Below.refl _ _) (fun d hd=>by cases hd; rfl)
  ·cases (Option.some.inj (show some _=some o from ho));have h28:a.tmps.getD 28 undef=.pointer (some ⟨w.heap.size,0,none⟩):=hI.slot (i:=0) (d:=28) (hdep ⟨0,.data⟩ (by simp) (by rfl)) rfl;have hc2:=(bQ (bS hI.below HQ1.out)).1;refine bG rfl fun K hK=>?_;clear hdep hI ho hi;go_simp;exact hK _ _ (Below.refl _ _) (fun d hd=>by cases hd; rfl)
  ·cases (Option.some.inj (show some _=some o from ho));have h3:a.tmps.getD 3 undef=.pointer (some ⟨w.heap.size,0,none⟩):=hI.free (t:=3) (by kernel_rfl);refine bG rfl fun K hK=>?_;clear hdep hI ho hi;go_simp;exact hK _ _ (Below.refl _ _) (fun d hd=>by cases hd; rfl)
  ·cases (Option.some.inj (show some _=some o from ho));have h30:a.tmps.getD 30 undef=.pointer (some ⟨w.heap.size,1,none⟩):=hI.slot (i:=2) (d:=30) (hdep ⟨2,.data⟩ (by simp) (by rfl)) rfl;have hc2:=(bQ (bS hI.below HQ1.out)).2.1;refine bG rfl fun K hK=>?_;clear hdep hI ho hi;go_simp;exact hK _ _ (Below.refl _ _) (fun d hd=>by cases hd; rfl)
  ·cases (Option.some.inj (show some _=some o from ho));have h2:a.tmps.getD 2 undef=d:=hI.free (t:=2) (by kernel_rfl);refine bG rfl fun K hK=>?_;clear hdep hI ho hi;go_simp;exact hK _ _ (Below.refl _ _) (fun d hd=>by cases hd; rfl)
  ·cases (Option.some.inj (show some _=some o from ho));have h31:a.tmps.getD 31 undef=s:=hI.slot (i:=3) (d:=31) (hdep ⟨3,.data⟩ (by simp) (by rfl)) rfl;have h32:a.tmps.getD 32 undef=d:=hI.slot (i:=4) (d:=32) (hdep ⟨4,.data⟩ (by simp) (by rfl)) rfl;have hbw:=Pu.aO HB1.out hI.below;refine bG rfl fun K hK=>?_;clear hdep hI ho hi;go_simp;refine(HX.out _ (HS.out.keep hbw) (HD.out.keep hbw)).mono ?_;rintro e w3 ⟨v3,rfl,hn3,hb3⟩;exact hK _ _ hb3 (fun d hd=>by cases hd; exact hn3)
  ·cases (Option.some.inj (show some _=some o from ho));have h29:a.tmps.getD 29 undef=.bool b:=hI.slot (i:=1) (d:=29) (hdep ⟨1,.data⟩ (by simp) (by rfl)) rfl;have h33:aL w2 (a.tmps.getD 33 undef) (aA (z.natAbs-m)):=hI.slot (i:=5) (d:=33) (hdep ⟨5,.data⟩ (by simp) (by rfl)) rfl;obtain⟨x33,e33⟩:∃ x,a.tmps.getD 33 undef=x:=⟨_,rfl⟩
   rw[e33] at h33;refine bG rfl fun K hK=>?_;clear hdep hI ho hi;go_simp;refine(kS b x33 _ _ h33 (bF _)).mono ?_;rintro e w3 ⟨v3,rfl,hn3,hb3⟩;rw[aX] at hn3;exact hK _ _ hb3 (fun d hd=>by cases hd; exact hn3)
 ·intro L a w2 o ho hL hoth hI;cases (Option.some.inj (show some _=some o from ho));have h6:a.tmps.getD 6 undef=.pointer (some ⟨w.heap.size+1,0,none⟩):=hI.free (t:=6) (by kernel_rfl);have h34:aW w2 (a.tmps.getD 34 undef) (mk b (z.natAbs-m)):=hI.slot (i:=6) (d:=34) (hoth 6 (by decide) (by decide)) rfl;obtain⟨x34,e34⟩:∃ x,a.tmps.getD 34 undef=x:=⟨_,rfl⟩
  rw[e34] at h34;refine⟨rfl,?_⟩;refine sV (.tmp 6) (.tmp 34) rfl (w.heap.size+1) x34 _ h6 e34 h34 (HR1.out.keep hI.below) ?_;refine hret _ _ (wp_ret ?_);exact qG rfl hI.defers h6 (HR1.out.keep hI.below) h34 (Pu.aO HB1.out hI.below) (by omega)
 ·intro hfn;exact absurd hfn (by decide)
set_option maxHeartbeats 1000000 in
theorem aRl (v:Value) (z:Int) (neg:Bool) (d:Value) (m:Nat) (w:World) (hv:aW w v z) (hd:aL w d (aA m)) (hneg:neg≠decide (z<0)) (hlt:z.natAbs<m) (hl1:(aA z.natAbs).length<=1099511627776) (hl2:(aA m).length<=1099511627776) :
  Calls Tryz.prog 198 #[v,.bool neg,d] w (fF w (z+mk neg m)):=by
 obtain⟨s,rfl,hs⟩:=hv;have hne:(decide (z<0)==neg)=false:=by cases neg<;>simp_all
 have hc:bA z.natAbs m = -1:=by unfold bA; rw[if_pos (by omega)]
 have HC:=hid (wC s d z.natAbs m · · ·);rw[hc] at HC;have hval:((m-z.natAbs:Nat):Int)=1*(val (aA m):Int)+(-1)*(val (aA z.natAbs):Int):=by rw[aX,aX]; omega
 have hlt2:m-z.natAbs<1000000000^(max (aA m).length (aA z.natAbs).length+1):=fG.1 (Nat.le_trans (dW (Nat.le_add_right (m-z.natAbs) (z.natAbs+z.natAbs))) (by have:=wH m z.natAbs; rw[show m-z.natAbs+(z.natAbs+z.natAbs)=m+z.natAbs by omega]; exact this));have HX:=hid (oZ 1 (-1) d s _ _ _ · · · (bF m) (bF z.natAbs) (by decide) (by decide) (by decide) (by decide) hval hlt2 hl2 hl1);rw[<- aMl hneg hlt];clear hval hlt2 hc;generalize decide (z<0)=b at *;have HS:=hid hs;have HD:=hid hd;clear hs hd;have HB0:=hid (show Below w.heap.size w ((w.alloc (Obj.cells #[Value.bool b,s] 28)).alloc (Obj.cells #[Value.bool false,Value.slice none 0 0] 28)) from ((Below.refl _ _).alloc (Nat.le_refl _) _).alloc (by simp) _);have HQ0:=hid (show ((w.alloc (Obj.cells #[Value.bool b,s] 28)).alloc (Obj.cells #[Value.bool false,Value.slice none 0 0] 28)).heap[w.heap.size]?=some (.cells #[.bool b,s] 28 (0,0)) from bS ((Below.refl _ _).alloc (Nat.le_refl _) _) (heap_alloc_new w _));have HR0:=hid (show bW ((w.alloc (Obj.cells #[Value.bool b,s] 28)).alloc (Obj.cells #[Value.bool false,Value.slice none 0 0] 28)) (w.heap.size+1) by
  have h:=bW.new (w.alloc (Obj.cells #[Value.bool b,s] 28)) false none 0 0;rwa[show (w.alloc (Obj.cells #[Value.bool b,s] 28)).heap.size=w.heap.size+1 by simp] at h)
 go_enter Tryz.func198,Tryz.ntmps198
 go_wp2_with fail
 refine(HC.out _ (HS.out.keep HB0.out) (HD.out.keep HB0.out)).mono ?_;rintro e w1 ⟨rfl,hb1⟩;have HB1:=hid (Pu.aO HB0.out hb1);have hc2:=(bQ (bS hb1 HQ0.out)).2.1;have HR1:=hid (HR0.out.keep hb1);clear hb1
 go_wp2_with fail
 refine(HX.out _ (HD.out.keep HB1.out) (HS.out.keep HB1.out)).mono ?_;rintro e w2 ⟨v2,rfl,hn2,hb2⟩;have HN2:=hid hn2;have HB2:=hid (Pu.aO HB1.out hb2);have HR2:=hid (HR1.out.keep hb2);clear hn2 hb2
 go_wp2_with fail
 refine(kS neg v2 _ _ HN2.out (bF _)).mono ?_;rintro e w3 ⟨v3,rfl,hv3,hb3⟩;rw[aX] at hv3;have HV3:=hid hv3;have HB3:=hid (Pu.aO HB2.out hb3);have HR3:=hid (HR2.out.keep hb3);clear hv3 hb3
 go_wp2_with (with_reducible refine eT rfl (.tmp 6) (.tmp 27) rfl (w.heap.size+1) v3 _ rfl rfl HV3.out HR3.out ?_)
 exact mE rfl rfl HR3.out HV3.out HB3.out (by omega)
theorem aVa (v:Value) (z:Int) (neg:Bool) (d:Value) (m:Nat) (w:World) (hv:aW w v z) (hd:aL w d (aA m)) (hl1:(aA z.natAbs).length<=1099511627776) (hl2:(aA m).length<=1099511627776) :
  Calls Tryz.prog 198 #[v,.bool neg,d] w (fF w (z+mk neg m)):=by
 by_cases hn:neg=decide (z<0)
 ·exact aS5 v z neg d m w hv hd hn hl1 hl2
 ·rcases Nat.lt_or_ge z.natAbs m with h | h
  ·exact aRl v z neg d m w hv hd hn h hl1 hl2
  ·exact aU9 v z neg d m w hv hd hn h hl1 hl2
abbrev len (z:Int):Nat:=(aA z.natAbs).length
theorem sI (z:Int):mk (decide (z<0)) z.natAbs=z:=by
 unfold mk;rcases Int.lt_or_le z 0 with h1 | h1
 ·simp only[h1,decide_true,if_true]; omega
 ·simp only[show ¬ z<0 by omega,decide_false,Bool.false_eq_true,if_false]; omega
theorem aN5 (z:Int):mk (!decide (z<0)) z.natAbs = -z:=by
 unfold mk;rcases Int.lt_or_le z 0 with h1 | h1
 ·simp only[h1,decide_true,Bool.not_true,Bool.false_eq_true,if_false]; omega
 ·simp only[show ¬ z<0 by omega,decide_false,Bool.not_false,if_true]; omega
theorem bW.at {W:World} {g:Nat} (h:W.heap.size=g):bW (W.alloc (.cells #[.bool false,.slice none 0 0] 28)) g:=by
 subst h; exact bW.new W _ _ _ _
theorem vF (w:World) (a b c:Obj):Below w.heap.size w (((w.alloc a).alloc b).alloc c) :=
 ((((Below.refl _ _).alloc (Nat.le_refl _) _).alloc (by simp) _).alloc (by simp; omega) _)
theorem vG (w:World) (a b:Obj):Below w.heap.size w ((w.alloc a).alloc b) :=
 (((Below.refl _ _).alloc (Nat.le_refl _) _).alloc (by simp) _)
theorem sO (w:World) (a b c:Obj):(((w.alloc a).alloc b).alloc c).heap[w.heap.size]?=some a :=
 bS (vG (w.alloc a) b c) (heap_alloc_new w a)
theorem sG (w:World) (a b c:Obj):(((w.alloc a).alloc b).alloc c).heap[w.heap.size+1]?=some b:=by
 have h:=bS ((Below.refl _ _).alloc (Nat.le_refl _) c) (heap_alloc_new (w.alloc a) b);rwa[show (w.alloc a).heap.size=w.heap.size+1 by simp] at h
theorem aZm (w:World) (a b:Obj):((w.alloc a).alloc b).heap[w.heap.size]?=some a :=
 bS ((Below.refl _ _).alloc (Nat.le_refl _) _) (heap_alloc_new w a)
set_option maxHeartbeats 1000000 in
theorem aYy (vx vy:Value) (x y:Int) (w:World) (hx:aW w vx x) (hy:aW w vy y) (hl1:len x<=1099511627776) (hl2:len y<=1099511627776) :
  Calls Tryz.prog 141 #[vx,vy] w (fF w (x+y)):=by
 have hx1:=hx;obtain⟨s,rfl,_⟩:=hx1;obtain⟨t,rfl,ht⟩:=hy;have HP:=hid (aVa (.agg #[.bool (decide (x<0)),s]) x (decide (y<0)) t y.natAbs · · · hl1 hl2);rw[sI] at HP;generalize decide (x<0)=bx at *;generalize decide (y<0)=by' at *
 have HS:=hid hx;have HT:=hid ht;have HB:=hid (vF w (Obj.cells #[Value.bool bx,s] 28) (Obj.cells #[Value.bool by',t] 28) (Obj.cells #[Value.bool false,Value.slice none 0 0] 28));have HR:=hid (bW.at (W:=(w.alloc (Obj.cells #[Value.bool bx,s] 28)).alloc (Obj.cells #[Value.bool by',t] 28)) (g:=w.heap.size+1+1) (by simp));clear hx ht
 go_enter Tryz.func141,Tryz.ntmps141
 go_wp2_with fail
 refine(HP.out _ (HS.out.keep HB.out) (HT.out.keep HB.out)).mono ?_;rintro e w1 ⟨v1,rfl,hv1,hb1⟩;have HV1:=hid hv1;have HB1:=hid (Pu.aO HB.out hb1);have HR1:=hid (HR.out.keep hb1);clear hv1 hb1
 go_wp2_with (with_reducible refine eT rfl (.tmp 4) (.tmp 10) rfl (w.heap.size+1+1) v1 _ rfl rfl HV1.out HR1.out ?_)
 exact mE rfl rfl HR1.out HV1.out HB1.out (by omega)
theorem aN6 (x y:Int):mk (decide (x<0) != decide (y<0)) (x.natAbs*y.natAbs)=x*y:=by
 rw[<- Int.natAbs_mul];have key:∀ z:Int,mk (decide (z<0)) z.natAbs=z:=sI;rcases Int.lt_trichotomy x 0 with hx | rfl | hx
 ·rcases Int.lt_trichotomy y 0 with hy | rfl | hy
  ·have:=Int.mul_pos_of_neg_of_neg hx hy;have e:(decide (x<0) != decide (y<0))=decide (x*y<0):=by simp[hx,hy]; omega
   rw[e,key]
  ·simp[mk]
  ·have:=Int.mul_neg_of_neg_of_pos hx hy;have e:(decide (x<0) != decide (y<0))=decide (x*y<0):=by simp[hx,show ¬ y<0 by omega]; omega
   rw[e,key]
 ·simp[mk]
 ·rcases Int.lt_trichotomy y 0 with hy | rfl | hy
  ·have:=Int.mul_neg_of_pos_of_neg hx hy;have e:(decide (x<0) != decide (y<0))=decide (x*y<0):=by simp[hy,show ¬ x<0 by omega]; omega
   rw[e,key]
  ·simp[mk]
  ·have:=Int.mul_pos hx hy;have e:(decide (x<0) != decide (y<0))=decide (x*y<0):=by simp[show ¬ x<0 by omega,show ¬ y<0 by omega]; omega
   rw[e,key]
set_option maxHeartbeats 1000000 in
theorem aYt (vx vy:Value) (x y:Int) (w:World) (hx:aW w vx x) (hy:aW w vy y) (hl1:len x<=1099511627776) (hl2:len y<=1099511627776) :
  Calls Tryz.prog 136 #[vx,vy] w (fF w (x*y)):=by
 obtain⟨s,rfl,hs⟩:=hx;obtain⟨t,rfl,ht⟩:=hy;have HM:=hid (aSh s t _ _ · · · (bF x.natAbs) (bF y.natAbs) hl1 hl2);rw[aX,aX] at HM;rw[<- aN6];generalize decide (x<0)=bx at *;generalize decide (y<0)=by' at *
 have HS:=hid hs;have HT:=hid ht;have HB:=hid (vF w (Obj.cells #[Value.bool bx,s] 28) (Obj.cells #[Value.bool by',t] 28) (Obj.cells #[Value.bool false,Value.slice none 0 0] 28));have HR:=hid (bW.at (W:=(w.alloc (Obj.cells #[Value.bool bx,s] 28)).alloc (Obj.cells #[Value.bool by',t] 28)) (g:=w.heap.size+1+1) (by simp));have HX:=hid (sO w (Obj.cells #[Value.bool bx,s] 28) (Obj.cells #[Value.bool by',t] 28) (Obj.cells #[Value.bool false,Value.slice none 0 0] 28));have HY:=hid (sG w (Obj.cells #[Value.bool bx,s] 28) (Obj.cells #[Value.bool by',t] 28) (Obj.cells #[Value.bool false,Value.slice none 0 0] 28));clear hs ht
 go_enter Tryz.func136,Tryz.ntmps136
 go_upto_region 1 with fail
 rename_i hret;refine Pu.rP 11 (gN [(5,.eq (.pointer (some ⟨w.heap.size,0,none⟩))),(6,.eq (.bool bx)),(7,.eq (.pointer (some ⟨w.heap.size+1,0,none⟩))),(8,.eq (.bool by')),(9,.eq (.bool (bx != by'))),(10,.eq (.pointer (some ⟨w.heap.size,1,none⟩))),(11,.eq (s)),(12,.eq (.pointer (some ⟨w.heap.size+1,1,none⟩))),(13,.eq (t)),(14,.nums (aA (x.natAbs*y.natAbs))),(15,.int (mk (bx != by') (x.natAbs*y.natAbs)))]) (by kernel_rfl) (by kernel_rfl) (by kernel_rfl) (fun hfn=>by kernel_rfl) (gN.keep _) ?_ ?_ ?_
 ·intro L a w2 i o ho hne2 hL hdep hI;have hi:i<12:=(Array.getElem?_eq_some_iff.1 ho).1;rcases (show i=0\/i=1\/i=2\/i=3\/i=4\/i=5\/i=6\/i=7\/i=8\/i=9\/i=10 by omega) with rfl | rfl | rfl | rfl | rfl | rfl | rfl | rfl | rfl | rfl | rfl
  ·cases (Option.some.inj (show some _=some o from ho));have h2:a.tmps.getD 2 undef=.pointer (some ⟨w.heap.size,0,none⟩):=hI.free (t:=2) (by kernel_rfl);refine bG rfl fun K hK=>?_;clear hdep hI ho hi;go_simp;exact hK _ _ (Below.refl _ _) (fun d hd=>by cases hd; rfl)
  ·cases (Option.some.inj (show some _=some o from ho));have h5:a.tmps.getD 5 undef=.pointer (some ⟨w.heap.size,0,none⟩):=hI.slot (i:=0) (d:=5) (hdep ⟨0,.data⟩ (by simp) (by rfl)) rfl;have hc2:=(bQ (bS hI.below HX.out)).1;refine bG rfl fun K hK=>?_;clear hdep hI ho hi;go_simp;exact hK _ _ (Below.refl _ _) (fun d hd=>by cases hd; rfl)
  ·cases (Option.some.inj (show some _=some o from ho));have h3:a.tmps.getD 3 undef=.pointer (some ⟨w.heap.size+1,0,none⟩):=hI.free (t:=3) (by kernel_rfl);refine bG rfl fun K hK=>?_;clear hdep hI ho hi;go_simp;exact hK _ _ (Below.refl _ _) (fun d hd=>by cases hd; rfl)
  ·cases (Option.some.inj (show some _=some o from ho));have h7:a.tmps.getD 7 undef=.pointer (some ⟨w.heap.size+1,0,none⟩):=hI.slot (i:=2) (d:=7) (hdep ⟨2,.data⟩ (by simp) (by rfl)) rfl;have hc2:=(bQ (bS hI.below HY.out)).1;refine bG rfl fun K hK=>?_;clear hdep hI ho hi;go_simp;exact hK _ _ (Below.refl _ _) (fun d hd=>by cases hd; rfl)
  ·cases (Option.some.inj (show some _=some o from ho));have h6:a.tmps.getD 6 undef=.bool bx:=hI.slot (i:=1) (d:=6) (hdep ⟨1,.data⟩ (by simp) (by rfl)) rfl;have h8:a.tmps.getD 8 undef=.bool by':=hI.slot (i:=3) (d:=8) (hdep ⟨3,.data⟩ (by simp) (by rfl)) rfl
   refine bG rfl fun K hK=>?_;clear hdep hI ho hi;go_simp;exact hK _ _ (Below.refl _ _) (fun d hd=>by cases hd; rfl)
  ·cases (Option.some.inj (show some _=some o from ho));have h2:a.tmps.getD 2 undef=.pointer (some ⟨w.heap.size,0,none⟩):=hI.free (t:=2) (by kernel_rfl);refine bG rfl fun K hK=>?_;clear hdep hI ho hi;go_simp;exact hK _ _ (Below.refl _ _) (fun d hd=>by cases hd; rfl)
  ·cases (Option.some.inj (show some _=some o from ho));have h10:a.tmps.getD 10 undef=.pointer (some ⟨w.heap.size,1,none⟩):=hI.slot (i:=5) (d:=10) (hdep ⟨5,.data⟩ (by simp) (by rfl)) rfl;have hc2:=(bQ (bS hI.below HX.out)).2.1;refine bG rfl fun K hK=>?_;clear hdep hI ho hi;go_simp;exact hK _ _ (Below.refl _ _) (fun d hd=>by cases hd; rfl)
  ·cases (Option.some.inj (show some _=some o from ho));have h3:a.tmps.getD 3 undef=.pointer (some ⟨w.heap.size+1,0,none⟩):=hI.free (t:=3) (by kernel_rfl);refine bG rfl fun K hK=>?_;clear hdep hI ho hi;go_simp;exact hK _ _ (Below.refl _ _) (fun d hd=>by cases hd; rfl)
  ·cases (Option.some.inj (show some _=some o from ho));have h12:a.tmps.getD 12 undef=.pointer (some ⟨w.heap.size+1,1,none⟩):=hI.slot (i:=7) (d:=12) (hdep ⟨7,.data⟩ (by simp) (by rfl)) rfl;have hc2:=(bQ (bS hI.below HY.out)).2.1;refine bG rfl fun K hK=>?_;clear hdep hI ho hi;go_simp;exact hK _ _ (Below.refl _ _) (fun d hd=>by cases hd; rfl)
  ·cases (Option.some.inj (show some _=some o from ho));have h11:a.tmps.getD 11 undef=s:=hI.slot (i:=6) (d:=11) (hdep ⟨6,.data⟩ (by simp) (by rfl)) rfl;have h13:a.tmps.getD 13 undef=t:=hI.slot (i:=8) (d:=13) (hdep ⟨8,.data⟩ (by simp) (by rfl)) rfl;have hbw:=Pu.aO HB.out hI.below;refine bG rfl fun K hK=>?_;clear hdep hI ho hi;go_simp;refine(HM.out _ (HS.out.keep hbw) (HT.out.keep hbw)).mono ?_;rintro e w3 ⟨v3,rfl,hn3,hb3⟩;exact hK _ _ hb3 (fun d hd=>by cases hd; exact hn3)
  ·cases (Option.some.inj (show some _=some o from ho));have h9:a.tmps.getD 9 undef=.bool (bx != by'):=hI.slot (i:=4) (d:=9) (hdep ⟨4,.data⟩ (by simp) (by rfl)) rfl;have h14:aL w2 (a.tmps.getD 14 undef) (aA (x.natAbs*y.natAbs)):=hI.slot (i:=9) (d:=14) (hdep ⟨9,.data⟩ (by simp) (by rfl)) rfl;obtain⟨x14,e14⟩:∃ x,a.tmps.getD 14 undef=x:=⟨_,rfl⟩
   rw[e14] at h14;refine bG rfl fun K hK=>?_;clear hdep hI ho hi;go_simp;refine(kS (bx != by') x14 _ _ h14 (bF _)).mono ?_;rintro e w3 ⟨v3,rfl,hn3,hb3⟩;rw[aX] at hn3;exact hK _ _ hb3 (fun d hd=>by cases hd; exact hn3)
 ·intro L a w2 o ho hL hoth hI;cases (Option.some.inj (show some _=some o from ho));have h4:a.tmps.getD 4 undef=.pointer (some ⟨w.heap.size+1+1,0,none⟩):=hI.free (t:=4) (by kernel_rfl);have h15:aW w2 (a.tmps.getD 15 undef) (mk (bx != by') (x.natAbs*y.natAbs)):=hI.slot (i:=10) (d:=15) (hoth 10 (by decide) (by decide)) rfl;obtain⟨x15,e15⟩:∃ x,a.tmps.getD 15 undef=x:=⟨_,rfl⟩
  rw[e15] at h15;refine⟨rfl,?_⟩;refine sV (.tmp 4) (.tmp 15) rfl (w.heap.size+1+1) x15 _ h4 e15 h15 (HR.out.keep hI.below) ?_;refine hret _ _ (wp_ret ?_);exact qG rfl hI.defers h4 (HR.out.keep hI.below) h15 (Pu.aO HB.out hI.below) (by omega)
 ·intro hfn;exact absurd hfn (by decide)
theorem aM8 (x y:Nat):bA (-(x:Int)) (-(y:Int))=bA y x:=by
 unfold bA;rcases Nat.lt_trichotomy x y with h | h | h
 ·rw[if_neg (by omega),if_pos (by omega),if_neg (by omega),if_pos (by omega)]
 ·rw[if_neg (by omega),if_neg (by omega),if_neg (by omega),if_neg (by omega)]
 ·rw[if_pos (by omega),if_pos (by omega)]
set_option maxHeartbeats 1000000 in
theorem aHm (vx vy:Value) (x y:Int) (w:World) (hx:aW w vx x) (hy:aW w vy y) :
  Calls Tryz.prog 123 #[vx,vy] w (yI w (bA x y)):=by
 obtain⟨s,rfl,hs⟩:=hx;obtain⟨t,rfl,ht⟩:=hy;have HS:=hid hs;have HT:=hid ht;have HB:Hid (∀ bx by':Bool,Below w.heap.size w ((w.alloc (Obj.cells #[Value.bool bx,s] 28)).alloc (Obj.cells #[Value.bool by',t] 28))):=hid fun _ _=>vG w _ _;clear hs ht;rcases Int.lt_or_le x 0 with h | h
 ·have hd:decide (x<0)=true:=by simp[h]
  rw[hd];rcases Int.lt_or_le y 0 with k | k
  ·have kd:decide (y<0)=true:=by simp[k]
   rw[kd];have e:bA x y=bA y.natAbs x.natAbs:=by
    rw[<- aM8]; congr 1<;>omega
   rw[e];have HC:=hid (wC t s y.natAbs x.natAbs · · ·);clear h k hd kd e
   go_enter Tryz.func123,Tryz.ntmps123
   go_wp2_with fail
   refine(HC.out _ (HT.out.keep (HB.out _ _)) (HS.out.keep (HB.out _ _))).mono ?_;rintro e w1 ⟨rfl,hb1⟩;have HB1:=hid (Pu.aO (HB.out _ _) hb1);clear hb1;go_wp2
   go_ret
   exact⟨rfl,HB1.out⟩
  ·have kd:decide (y<0)=false:=by simp[k]
   rw[kd];have e:(-1:Int)=bA x y:=by unfold bA; rw[if_pos (by omega)]
   rw[<- e];clear h k hd kd e
   go_enter Tryz.func123,Tryz.ntmps123
   go_wp2
   go_ret
   exact⟨rfl,HB.out _ _⟩
 ·have hd:decide (x<0)=false:=by simp[h]
  rw[hd];rcases Int.lt_or_le y 0 with k | k
  ·have kd:decide (y<0)=true:=by simp[k]
   rw[kd];have e:(1:Int)=bA x y:=by unfold bA; rw[if_neg (by omega),if_pos (by omega)]
   rw[<- e];clear h k hd kd e
   go_enter Tryz.func123,Tryz.ntmps123
   go_wp2
   go_ret
   exact⟨rfl,HB.out _ _⟩
  ·have kd:decide (y<0)=false:=by simp[k]
   rw[kd];have e:bA x y=bA x.natAbs y.natAbs:=by congr 1<;>omega
   rw[e];have HC:=hid (wC s t x.natAbs y.natAbs · · ·);clear h k hd kd e
   go_enter Tryz.func123,Tryz.ntmps123
   go_wp2_with fail
   refine(HC.out _ (HS.out.keep (HB.out _ _)) (HT.out.keep (HB.out _ _))).mono ?_;rintro e w1 ⟨rfl,hb1⟩;have HB1:=hid (Pu.aO (HB.out _ _) hb1);clear hb1;go_wp2
   go_ret
   exact⟨rfl,HB1.out⟩
theorem uJ (w:World):aW w (.agg #[.bool false,.slice none 0 0]) 0:=⟨_,rfl,aL.nil (by decide)⟩
set_option maxHeartbeats 1000000 in
theorem aWm (vx:Value) (x:Int) (w:World) (hx:aW w vx x) :
  Calls Tryz.prog 140 #[vx] w (yI w (bA x 0)):=by
 have hx1:=hx;obtain⟨s,rfl,_⟩:=hx1;have HS:=hid hx;have HC:=hid (aHm (.agg #[.bool (decide (x<0)),s]) (.agg #[.bool false,.slice none 0 0]) x 0 · · ·);generalize decide (x<0)=bx at *;have HB:=hid (show Below w.heap.size w (w.alloc (Obj.cells #[Value.bool bx,s] 28)) from (Below.refl _ _).alloc (Nat.le_refl _) _);clear hx
 go_enter Tryz.func140,Tryz.ntmps140
 go_wp2_with fail
 refine(HC.out _ (HS.out.keep HB.out) (uJ _)).mono ?_;rintro e w1 ⟨rfl,hb1⟩;have HB1:=hid (Pu.aO HB.out hb1);clear hb1;go_wp2
 go_ret
 exact⟨rfl,HB1.out⟩
theorem aUj {n:Int} (h0:0<=n) (h1:n<=9223372036854775807):IntKind.u64.wrap n=n:=by
 simp[IntKind.wrap,IntKind.bits,IntKind.signed]; omega
theorem aUk {n:Int} (h0:n<0) (h1 : -9223372036854775808<=n):IntKind.u64.wrap n=18446744073709551616+n:=by
 simp[IntKind.wrap,IntKind.bits,IntKind.signed]; omega
theorem aSd {n:Int} (h0:n<0) (h1 : -9223372036854775808<=n):IntKind.u64.wrap (-(18446744073709551616+n))=((n.natAbs:Nat):Int):=by
 simp[IntKind.wrap,IntKind.bits,IntKind.signed]; omega
set_option maxRecDepth 100000 in
set_option maxHeartbeats 1000000 in
theorem aZy (n:Int) (w:World) (h1 : -9223372036854775808<=n) (h2:n<=9223372036854775807) :
  Calls Tryz.prog 145 #[.int .i64 n] w (fF w n):=by
 have HB:=hid (show Below w.heap.size w (w.alloc (Obj.cells #[Value.bool false,Value.slice none 0 0] 28)) from (Below.refl _ _).alloc (Nat.le_refl _) _);have HR:=hid (bW.at (W:=w) (g:=w.heap.size) rfl);have HS:=hid (tM n.natAbs · (by omega));rw[show fF w n=fF w (mk (decide (n<0)) n.natAbs) by rw[sI]];rcases Int.lt_or_le n 0 with h | h
 ·have hd:decide (n<0)=true:=by simp[h]
  rw[hd];have e1:=aUk h h1;have e2:=aSd h h1;obtain⟨u,hu⟩:∃ u,u=18446744073709551616+n:=⟨_,rfl⟩
  rw[<- hu] at e1 e2;obtain⟨m,hm⟩:∃ m,m=n.natAbs:=⟨_,rfl⟩
  rw[<- hm] at e2 HS |-;clear hu hm hd h1 h2
  go_enter Tryz.func145,Tryz.ntmps145
  go_wp2_with fail
  refine(HS.out _).mono ?_;rintro e w1 ⟨v1,rfl,hn1,hb1⟩;have HN1:=hid hn1;have HB1:=hid (Pu.aO HB.out hb1);have HR1:=hid (HR.out.keep hb1);clear hn1 hb1
  go_wp2_with fail
  refine(kS true v1 _ _ HN1.out (bF _)).mono ?_;rintro e w2 ⟨v2,rfl,hv2,hb2⟩;rw[aX] at hv2;have HV2:=hid hv2;have HB2:=hid (Pu.aO HB1.out hb2);have HR2:=hid (HR1.out.keep hb2);clear hv2 hb2
  go_wp2_with (with_reducible refine eT rfl (.tmp 2) (.tmp 14) rfl w.heap.size v2 _ rfl rfl HV2.out HR2.out ?_)
  exact mE rfl rfl HR2.out HV2.out HB2.out (Nat.le_refl _)
 ·have hd:decide (n<0)=false:=by simp[h]
  rw[hd];have e1:=aUj h h2;obtain⟨m,rfl⟩:=Int.eq_ofNat_of_zero_le h;rw[show ((m:Nat):Int).natAbs=m from rfl] at HS |-;clear hd h1 h
  go_enter Tryz.func145,Tryz.ntmps145
  go_wp2_with fail
  refine(HS.out _).mono ?_;rintro e w1 ⟨v1,rfl,hn1,hb1⟩;have HN1:=hid hn1;have HB1:=hid (Pu.aO HB.out hb1);have HR1:=hid (HR.out.keep hb1);clear hn1 hb1
  go_wp2_with fail
  refine(kS false v1 _ _ HN1.out (bF _)).mono ?_;rintro e w2 ⟨v2,rfl,hv2,hb2⟩;rw[aX] at hv2;have HV2:=hid hv2;have HB2:=hid (Pu.aO HB1.out hb2);have HR2:=hid (HR1.out.keep hb2);clear hv2 hb2
  go_wp2_with (with_reducible refine eT rfl (.tmp 2) (.tmp 14) rfl w.heap.size v2 _ rfl rfl HV2.out HR2.out ?_)
  exact mE rfl rfl HR2.out HV2.out HB2.out (Nat.le_refl _)
def aB0 (w:World) (b:Bool) (e:Ending) (w':World):Prop:=e=.returned (.bool b)/\Below w.heap.size w w'
theorem aPs {a b:List Nat} {k:Nat} (h:a.take k=b.take k) (ha:k<a.length) (hb:k<b.length) (he:a.getD k 0=b.getD k 0):a.take (k+1)=b.take (k+1):=by
 rw[List.take_succ_eq_append_getElem ha,List.take_succ_eq_append_getElem hb,h];congr 1;simp only[List.getD_eq_getElem?_getD,List.getElem?_eq_getElem ha,List.getElem?_eq_getElem hb,Option.getD_some] at he;rw[he]
theorem aP8 {x y:Int} (hs:decide (x<0)=decide (y<0)) (hd:aA x.natAbs=aA y.natAbs):x=y:=by
 have h:=aAx hd;rcases Int.lt_or_le x 0 with h1 | h1
 ·have h2:y<0:=by simpa[h1] using hs.symm
  omega
 ·have h2:¬ y<0:=by simpa[show ¬ x<0 by omega] using hs.symm
  omega
set_option maxRecDepth 100000 in
set_option maxHeartbeats 2000000 in
theorem aWn (vx vy:Value) (x y:Int) (w:World) (hx:aW w vx x) (hy:aW w vy y) :
  Calls Tryz.prog 97 #[vx,vy] w (aB0 w (decide (x=y))):=by
 obtain⟨s,rfl,hs⟩:=hx;obtain⟨t,rfl,ht⟩:=hy;obtain⟨ao,ac,rfl,a1,a2,a3⟩:=hs;obtain⟨bo,bc,rfl,b1,b2,b3⟩:=ht;have HA:=hid a3;have HB:=hid b3;clear a3 b3;unfold maxLen at a2 b2;have HW:Hid (∀ p q,Below w.heap.size w ((w.alloc (Obj.cells #[Value.bool p,.slice ao (aA x.natAbs).length ac] 28)).alloc (Obj.cells #[Value.bool q,.slice bo (aA y.natAbs).length bc] 28))):=hid fun _ _=>vG w _ _;by_cases hsg:decide (x<0)=decide (y<0)
 ·by_cases hl:(aA x.natAbs).length=(aA y.natAbs).length
  ·have HSG:=hid hsg;obtain⟨a,ha⟩:∃ a,a=aA x.natAbs:=⟨_,rfl⟩
   obtain⟨b,hb⟩:∃ b,b=aA y.natAbs:=⟨_,rfl⟩
   rw[<- ha] at HA HW a1 hl |-;rw[<- hb] at HB HW b1 hl |-;have HDA:=hid ha;have HDB:=hid hb;obtain⟨r,hr⟩:∃ r,r=decide (x=y):=⟨_,rfl⟩
   have hrt:a=b->r=true:=by
    intro h;rw[hr,aP8 hsg (by rw[<- ha,<- hb]; exact h)];simp
   have hrf:a≠b->r=false:=by
    intro h;rw[hr];simp only[decide_eq_false_iff_not];intro e;exact h (by rw[ha,hb,e])
   have HRT:=hid hrt;have HRF:=hid hrf;rw[<- hr];generalize decide (x<0)=p at *;generalize decide (y<0)=q at *;subst hsg;have hne:(p != p)=false:=bne_self_eq_false ..;have hll:(((a.length:Nat):Int) != ((b.length:Nat):Int))=false:=by rw[hl]; exact bne_self_eq_false ..
   have hl1:a.length<=b.length:=by omega
   have hl2:b.length<=a.length:=by omega
   have HL:=hid hl;clear hl ha hb hr hrt hrf;have HWp:=hid (HW.out p p);clear HW;obtain⟨W,hW⟩:∃ W,W=((w.alloc (Obj.cells #[Value.bool p,.slice ao a.length ac] 28)).alloc (Obj.cells #[Value.bool p,.slice bo b.length bc] 28)):=⟨_,rfl⟩
   have HC1:=hid (show W.heap[w.heap.size]?=some (.cells #[.bool p,.slice ao a.length ac] 28 (0,0)) by rw[hW]; exact aZm w _ _);have HC2:=hid (show W.heap[w.heap.size+1]?=some (.cells #[.bool p,.slice bo b.length bc] 28 (0,0)) by
    rw[hW];have h:=heap_alloc_new (w.alloc (Obj.cells #[Value.bool p,.slice ao a.length ac] 28)) (Obj.cells #[Value.bool p,.slice bo b.length bc] 28);rwa[show (w.alloc (Obj.cells #[Value.bool p,.slice ao a.length ac] 28)).heap.size=w.heap.size+1 by simp] at h)
   rw[<- hW] at HWp;have HWW:=hid hW;clear hW
   go_enter Tryz.func97,Tryz.ntmps97
   go_wp2;rw[<- HWW.out]
   go_loopw [5] (fun i wr=>∃ k:Nat,k<=a.length/\i=.int .i64 k/\a.take k=b.take k/\Below W.heap.size W wr) (fun i _=>a.length-(intOf i).toNat)
   case atStart=>exact⟨0,Nat.zero_le _,rfl,by simp,Below.refl _ _⟩
   case round =>
    obtain⟨k,hk,rfl,htk,hbel⟩:=hrel;have HT:=hid htk;have HBL:=hid hbel;obtain⟨c1,c2,-,-⟩:=bQ (bS hbel HC1.out);obtain⟨c3,c4,-,-⟩:=bQ (bS hbel HC2.out);have HBW:=hid (Pu.aO HWp.out hbel);clear htk hbel;by_cases hkl:k<a.length
    ·obtain⟨pa,po,rfl,hp⟩:=HA.out (by omega);obtain⟨qa,qo,rfl,hq⟩:=HB.out (by omega);have hpj:=keepCell HBW.out (hp k (by omega));have hqj:=keepCell HBW.out (hq k (by omega));obtain⟨dx,hdx⟩:∃ d,d=a.getD k 0:=⟨_,rfl⟩
     obtain⟨dy,hdy⟩:∃ d,d=b.getD k 0:=⟨_,rfl⟩
     rw[<- hdx] at hpj;rw[<- hdy] at hqj;have HDX:=hid hdx;have HDY:=hid hdy;have hkb:k<b.length:=by omega
     clear hp hq hdx hdy;by_cases hd:dx=dy
     ·subst hd;have hdd:(((dx:Nat):Int) != ((dx:Nat):Int))=false:=bne_self_eq_false ..;go_wp2
      go_quiet (fail)
      have HN:=hid (below_drewN HBL.out nq);go_wp2
      go_roundw
      case rel=>exact⟨k+1,by omega,by go_num,aPs HT.out hkl hkb (by rw[<- HDX.out,<- HDY.out]),HN.out⟩
      case measure=>simp[intOf]; omega
     ·have hdd:(((dx:Nat):Int) != ((dy:Nat):Int))=true:=by rw[bne_iff_ne]; omega
      go_wp2
      go_quiet (fail)
      go_wp2
      go_ret
      have hf:=HRF.out (fun e=>hd (by rw[HDX.out,HDY.out,e]));rw[hf];exact⟨rfl,below_drewN HBW.out _⟩
    ·obtain rfl:k=a.length:=by omega
     go_wp2
     go_ret
     have ht:=HRT.out (by
      have h:=HT.out;rwa[List.take_length,HL.out,List.take_length] at h)
     rw[ht];exact⟨rfl,HBW.out⟩
  ·have hll:((((aA x.natAbs).length:Nat):Int) != (((aA y.natAbs).length:Nat):Int))=true:=by rw[bne_iff_ne]; omega
   have hne:x≠y:=fun e=>hl (by rw[e]);have hr:decide (x=y)=false:=by simp[hne]
   rw[hr,<- hsg];generalize decide (x<0)=p at *;have hpp:(p != p)=false:=bne_self_eq_false ..;clear hne hr hl hsg
   go_enter Tryz.func97,Tryz.ntmps97
   go_wp2
   go_ret
   exact⟨rfl,HW.out _ _⟩
 ·have hne:x≠y:=fun e=>hsg (by rw[e]);have hr:decide (x=y)=false:=by simp[hne]
  rw[hr];generalize decide (x<0)=p at *;generalize decide (y<0)=q at *;clear hne hr;cases p<;>cases q
  ·exact absurd rfl hsg
  ·clear hsg
   go_enter Tryz.func97,Tryz.ntmps97
   go_wp2
   go_ret
   exact⟨rfl,HW.out _ _⟩
  ·clear hsg
   go_enter Tryz.func97,Tryz.ntmps97
   go_wp2
   go_ret
   exact⟨rfl,HW.out _ _⟩
  ·exact absurd rfl hsg
end Zn
end Go.Proofs.YtbaihklbefhgdaaGreat
