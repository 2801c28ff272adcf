/-
  
-/
import Derived.Test.YtbaihklbefhgdaaGreatSC1
import Derived.Test.YtbaihklbefhgdaaGreatSC2
import Derived.Test.YtbaihklbefhgdaaGreatRows
import Derived.Test.YtbaihklbefhgdaaGreatSC5
import Derived.Laws.Bits64b
import Derived.Lib.ItoaNum
import Derived.Shelf.Small.Bits
import Derived.RegionTactic
set_option linter.unusedVariables false
set_option linter.unusedSimpArgs false
set_option linter.unusedSectionVars false
namespace Go.Proofs.YtbaihklbefhgdaaGreat
open Go.RowKit
open Go.Lib (hid)
namespace Zn
def bAf (y:Nat) (w:World) (e:Ending) (w':World):Prop:=∃ s:Nat,e=.returned (.int .i64 (s:Int))/\s<=63/\9223372036854775808<=y*2^s/\y*2^s<18446744073709551616/\w=w'
theorem aX0 {y:Nat} (h0:0<y) (h:y<18446744073709551616):1<=Lib.bitLen y/\Lib.bitLen y<=64/\9223372036854775808<=y*2^(64-Lib.bitLen y)/\y*2^(64-Lib.bitLen y)<18446744073709551616:=by
 obtain⟨h1,h2,h3⟩:=Lib.bitLenAux_bounds 64 y h (by omega);have h4:Lib.bitLen y=Lib.bitLenAux 64 y:=rfl;rw[<- h4] at h1 h2 h3;generalize Lib.bitLen y=L at *;have h5:L<=64:=by
  refine Nat.le_of_not_lt fun h5=>?_;have h6:2^64<=2^(L-1):=Nat.pow_le_pow_right (by decide) (by omega);rw[show (2:Nat)^64=18446744073709551616 by decide] at h6;omega
 refine⟨h1,h5,?_,?_⟩
 ·have:=Nat.mul_le_mul_right (2^(64-L)) h2;rw[<- Nat.pow_add,show L-1+(64-L)=63 by omega] at this;exact this
 ·have:=Nat.mul_lt_mul_of_pos_right h3 (Nat.two_pow_pos (64-L));rw[<- Nat.pow_add,show L+(64-L)=64 by omega] at this;exact this
theorem aZi (y:Nat) (w:World) (h0:0<y) (h:y<18446744073709551616) :
  Calls Tryz.prog 242 #[.int .u64 (y:Int)] w (bAf y w):=by
 refine(Tryz.bits_LeadingZeros64 (y:Int) w (by omega) (by omega)).mono ?_;rintro e w' ⟨rfl,rfl⟩;rw[Int.toNat_natCast];obtain⟨h1,h2,h3,h4⟩:=aX0 h0 h;exact⟨64-Lib.bitLen y,by congr 2; omega,by omega,h3,h4,rfl⟩
def xW (n y:Nat) (w:World) (e:Ending) (w':World):Prop:=e=.returned (.tuple #[.int .u64 ((n/y:Nat):Int),.int .u64 ((n%y:Nat):Int)])/\Below w.heap.size w w'
set_option maxRecDepth 100000 in
set_option maxHeartbeats 4000000 in
theorem aR9 (lo y:Nat) (w:World) (hy:0<y) (hy2:y<18446744073709551616) (hlo:lo<18446744073709551616) :
  Calls Tryz.prog 237 #[.int .u64 0,.int .u64 (lo:Int),.int .u64 (y:Int)] w (xW lo y w):=by
 have hyz:((y:Int)==0)=false:=by rw[beq_eq_false_iff_ne]; omega
 have hy1:¬ ((y:Int)<=0):=by omega
 have hq:IntKind.u64.wrap ((lo:Int)/(y:Int))=((lo/y:Nat):Int):=by
  have:=Nat.div_le_self lo y;rw[<- Int.natCast_ediv];generalize lo/y=q at *;exact IntWalk.u64_in _ (by omega)
 have hr:((lo:Int)).tmod (y:Int)=((lo%y:Nat):Int):=by
  rw[Int.tmod_eq_emod_of_nonneg (by omega),Int.natCast_emod]
 go_enter Tryz.func237,Tryz.ntmps237
 go_wp2
 go_region
 go_wp2;go_ret2;exact⟨rfl,(Below.refl _ _).drew⟩
structure Nrm (hi lo y s u v v1 v0 l d1 d0:Nat):Prop where
 hv:IntKind.u64.wrap ((y:Int)*2^s)=(v:Int)
 hu:bits .or .u64 (IntKind.u64.wrap ((hi:Int)*2^s)) ((lo:Int)/2^(64-s))=(u:Int)
 hl:IntKind.u64.wrap ((lo:Int)*2^s)=(l:Int)
 ev1:(v:Int)/4294967296=(v1:Int)
 ev0:bits .and .u64 (v:Int) 4294967295=(v0:Int)
 ed1:(l:Int)/4294967296=(d1:Int)
 ed0:bits .and .u64 (l:Int) 4294967295=(d0:Int)
 vv:v=v1*4294967296+v0
 v1a:2147483648<=v1
 v1b:v1<4294967296
 v0b:v0<4294967296
 d1b:d1<4294967296
 d0b:d0<4294967296
 uv:u<v
 vs:v=y*2^s
 all:(u*4294967296+d1)*4294967296+d0=(hi*18446744073709551616+lo)*2^s
theorem aRw (u l:Nat):(u*4294967296+l/4294967296)*4294967296+l%4294967296=u*18446744073709551616+l:=by omega
theorem aXy {X l:Nat} (h:l=X%18446744073709551616):IntKind.u64.wrap (X:Int)=(l:Int):=by
 rw[IntKind.wrap_u64];omega
set_option maxRecDepth 100000 in
theorem Nrm.of {hi lo y s:Nat} (hy:hi<y) (hlo:lo<18446744073709551616) (hs:s<=63) (hn1:9223372036854775808<=y*2^s) (hn2:y*2^s<18446744073709551616):∃ u v v1 v0 l d1 d0,Nrm hi lo y s u v v1 v0 l d1 d0:=by
 have hlow:lo/2^(64-s)<2^s:=by
  rw[Nat.div_lt_iff_lt_mul (Nat.two_pow_pos _),<- Nat.pow_add,show s+(64-s)=64 by omega];exact hlo
 have hhi:hi*2^s+2^s<=y*2^s:=by
  have:=Nat.mul_le_mul_right (2^s) (show hi+1<=y by omega);rwa[Nat.succ_mul] at this
 have hN:=Dv.norm (hi:=hi) (lo:=lo) (show s<=64 by omega);rw[show (2:Nat)^64=18446744073709551616 by decide] at hN;have p2:∀ n:Nat,((n:Int)*2^s)=((n*2^s:Nat):Int):=by intro n; rw[Int.natCast_mul,Int.natCast_pow]; rfl
 have q2:((lo:Int)/2^(64-s))=((lo/2^(64-s):Nat):Int):=by rw[Int.natCast_ediv,Int.natCast_pow]; rfl
 have hl64:lo*2^s%18446744073709551616<18446744073709551616:=Nat.mod_lt _ (by decide);obtain⟨L,hL⟩:∃ L,L=lo/2^(64-s):=⟨_,rfl⟩
 obtain⟨l,hl⟩:∃ l,l=lo*2^s%18446744073709551616:=⟨_,rfl⟩
 obtain⟨v,hv⟩:∃ v,v=y*2^s:=⟨_,rfl⟩
 have e1:IntKind.u64.wrap ((y:Int)*2^s)=(v:Int):=by rw[p2,<- hv,IntKind.wrap_u64]; omega
 have e2:bits .or .u64 (IntKind.u64.wrap ((hi:Int)*2^s)) ((lo:Int)/2^(64-s))=((hi*2^s+L:Nat):Int):=by
  rw[p2,q2,<- hL,show IntKind.u64.wrap (((hi*2^s:Nat)):Int)=((hi*2^s:Nat):Int) by rw[IntKind.wrap_u64]; omega];rw[bits_or_u64_nat _ _ (by omega) (by omega),hL,Dv.aZa hlow]
 have e3:IntKind.u64.wrap ((lo:Int)*2^s)=(l:Int):=by
  rw[p2];exact aXy hl
 have m1:∀ a:Nat,a<18446744073709551616->bits .and .u64 (a:Int) 4294967295=((a%4294967296:Nat):Int):=fun a ha=>Mul64.maskN a ha;rw[<- hL,<- hl] at hN;rw[<- hL] at hlow;rw[<- hl] at hl64;rw[<- hv] at hn1 hn2 hhi;refine⟨hi*2^s+L,v,v/4294967296,v%4294967296,l,l/4294967296,l%4294967296,e1,e2,e3,by omega,m1 v hn2,by omega,m1 l hl64,by omega,by omega,by omega,by omega,by omega,by omega,by omega,hv,?_⟩;rw[<- hN];exact aRw _ _
theorem aAp {a b q:Nat} (h:q=a/b):(a:Int)/(b:Int)=(q:Int):=by rw[h,Int.natCast_ediv]
theorem zV {a b q r:Nat} (ha:a<18446744073709551616) (hq:q=a/b) (hr:r=a%b):IntKind.u64.wrap ((a:Int)-IntKind.u64.wrap ((q:Int)*(b:Int)))=(r:Int):=by
 have h:=Nat.div_add_mod a b;rw[<- hq,<- hr,Nat.mul_comm] at h;rw[<- Int.natCast_mul];generalize q*b=P at *;rw[IntKind.wrap_u64,IntKind.wrap_u64];omega
theorem mJ {u v d q:Nat} (hu:u<v) (hv:v<18446744073709551616) (_hd:d<4294967296) (hq:q=(u*4294967296+d)/v) :
  IntKind.u64.wrap (IntKind.u64.wrap (IntKind.u64.wrap ((u:Int)*4294967296)+(d:Int))-IntKind.u64.wrap ((q:Int)*(v:Int)))=(((u*4294967296+d)%v:Nat):Int):=by
 have h:=Nat.div_add_mod (u*4294967296+d) v;have h2:=Nat.mod_lt (u*4294967296+d) (show 0<v by omega);rw[<- hq,Nat.mul_comm] at h;rw[<- Int.natCast_mul];generalize q*v=P at *;generalize (u*4294967296+d)%v=R at *;rw[IntKind.wrap_u64,IntKind.wrap_u64,IntKind.wrap_u64,IntKind.wrap_u64];omega
theorem pN {hi lo y s u v v1 v0 l d1 d0 X R Y:Nat} (HN:Nrm hi lo y s u v v1 v0 l d1 d0) (hy:0<y) (hX:X=(u*4294967296+d1)/v) (hR:R=(u*4294967296+d1)%v) (hRv:R<v) (hY:Y=(R*4294967296+d0)/v) :
  X*4294967296+Y=(hi*18446744073709551616+lo)/y/\(R*4294967296+d0)%v=(hi*18446744073709551616+lo)%y*2^s/\X<4294967296/\Y<4294967296:=by
 have hv:0<v:=by omega
 obtain⟨e1,e2⟩:=Dv.aQ5 4294967296 (u*4294967296+d1) v d0 hv;obtain⟨e3,e4⟩:=Dv.aXa (hi*18446744073709551616+lo) y s hy;rw[HN.all,HN.vs,e3,<- HN.vs,<- hX,<- hR,<- hY] at e1;rw[HN.all,HN.vs,e4,<- HN.vs,<- hR] at e2;exact⟨e1.symm,e2.symm,hX ▸ Dv.aMt HN.uv HN.d1b,hY ▸ Dv.aMt hRv HN.d0b⟩
theorem pJ {X Y A:Nat} (h:X*4294967296+Y=A) (hX:X<4294967296) (hY:Y<4294967296):IntKind.u64.wrap (IntKind.u64.wrap ((X:Int)*4294967296)+(Y:Int))=(A:Int):=by
 rw[IntKind.wrap_u64,IntKind.wrap_u64];omega
theorem pD {T s:Nat}:(((T*2^s:Nat)):Int)/2^s=(T:Int):=by
 have h:((2:Int)^s)=((2^s:Nat):Int):=by rw[Int.natCast_pow]; rfl
 rw[h,<- Int.natCast_ediv,Nat.mul_div_cancel _ (Nat.two_pow_pos s)]
set_option maxRecDepth 100000 in
set_option maxHeartbeats 4000000 in
theorem aUd (hi lo y:Nat) (w:World) (h0:0<hi) (hy:hi<y) (hy2:y<18446744073709551616) (hlo:lo<18446744073709551616) :
  Calls Tryz.prog 237 #[.int .u64 (hi:Int),.int .u64 (lo:Int),.int .u64 (y:Int)] w (xW (hi*18446744073709551616+lo) y w):=by
 have hyz:((y:Int)==0)=false:=by rw[beq_eq_false_iff_ne]; omega
 have hiz:((hi:Int)==0)=false:=by rw[beq_eq_false_iff_ne]; omega
 have hy1:¬ ((y:Int)<=(hi:Int)):=by omega
 go_enter Tryz.func237,Tryz.ntmps237
 go_wp2_with fail
 refine(aZi y _ (by omega) hy2).mono ?_;rintro e w1 ⟨s,rfl,hs,hn1,hn2,rfl⟩;have hs2:(s:Int)<=63:=by omega
 obtain⟨u,v,v1,v0,l,d1,d0,hN⟩:=Nrm.of hy hlo hs hn1 hn2;have HN:=hid hN;obtain⟨hv,hu,hl,ev1,ev0,ed1,ed0,-,v1a,v1b,-,-,-,-,-,-⟩:=hN;clear hn1 hn2;have hv1z:((v1:Int)==0)=false:=by rw[beq_eq_false_iff_ne]; omega
 obtain⟨q1,hq1⟩:∃ q,q=u/v1:=⟨_,rfl⟩
 obtain⟨r1,hr1⟩:∃ r,r=u%v1:=⟨_,rfl⟩
 have hqr:=aAp hq1;have hrr:=zV (by have:=HN.out.uv; have:=HN.out.vv; omega) hq1 hr1;have HJ:=hid (show Dv.J u v1 v0 d1 q1 r1 by rw[hq1,hr1]; exact Dv.J.start HN.out.v0b v1a (by rw[<- HN.out.vv]; exact HN.out.uv) HN.out.d1b);have hrb:r1<4294967296:=by
  have:=Nat.mod_lt u (show 0<v1 by omega);omega
 have hq1t:=HJ.out.top;clear hq1 hr1
 go_upto_region 17 with fail
 go_loopw [15,16] (fun q r wr=>∃ q' r':Nat,q=.int .u64 q'/\r=.int .u64 r'/\Dv.J u v1 v0 d1 q' r'/\r'<4294967296/\w=wr) (fun _ r _=>4294967296-(intOf r).toNat)
 case atStart=>exact⟨q1,r1,rfl,rfl,HJ.out,hrb,rfl⟩
 case round =>
  clear hqr hrr HJ hrb hq1t hv hu hl ev1 ev0 ed1 ed0 hyz hiz hy1 hs2 hv1z;obtain⟨q,r,rfl,rfl,hj,hrb,rfl⟩:=hrel;have HJ:=hid hj;have hqt:=hj.top;clear hj;have hd1b:=HN.out.d1b;have hd1i:(d1:Int)<4294967296:=by omega
  have hri:(r:Int)<4294967296:=by omega
  have hqi:(q:Int)<=4294967297:=by omega
  have hv1i:(v1:Int)<4294967296:=by omega
  have hv0b:=HN.out.v0b;have huv:u<v1*4294967296+v0:=by rw[<- HN.out.vv]; exact HN.out.uv
  obtain⟨P,hP⟩:∃ P,P=q*v0:=⟨_,rfl⟩
  obtain⟨m,hm⟩:∃ m,m=4294967296*r:=⟨_,rfl⟩
  have hmi:(4294967296:Int)*(r:Int)=(m:Int):=by omega
  have hm1:(m:Int)<18446744069414584321:=by omega
  obtain⟨n,hn⟩:∃ n,n=m+d1:=⟨_,rfl⟩
  have hni:(m:Int)+(d1:Int)=(n:Int):=by omega
  have hn1:(n:Int)<18446744073709551616:=by omega
  obtain⟨t,ht⟩:∃ t,t=r+v1:=⟨_,rfl⟩
  have hti:(r:Int)+(v1:Int)=(t:Int):=by omega
  have ht1:(t:Int)<18446744073709551616:=by omega
  have hPi:(q:Int)*(v0:Int)=(P:Int):=by rw[hP,Int.natCast_mul]
  have hPb:q<4294967296->P<18446744073709551616:=by
   intro h;have:=Nat.mul_le_mul (show q<=4294967295 by omega) (show v0<=4294967295 by omega);omega
  have hcs:(4294967296<=q\/(q<4294967296/\n<P))\/(q<4294967296/\P<=n):=by omega
  have HM:=hid hm;have HNN:=hid hn;have HTT:=hid ht;clear hm hn ht;have HPB:=hid hPb;have HP:=hid hP;have HUV:=hid huv;clear hPb hP huv;rcases hcs with hC | ⟨hc1,hc2⟩
  ·obtain⟨p,hp,hJp⟩:=HJ.out.down v1a HUV.out hd1b (by rw[<- HP.out,<- HM.out,<- HNN.out]; omega);rw[<- HTT.out] at hJp;have HJP:=hid hJp;have hp1:(1:Int)<=(q:Int):=by omega
   have HQ:=hid hp;clear hp hJp;by_cases hbig:4294967296<=t
   ·have HF:=hid (HJP.out.big hv0b v1a (by have:=HQ.out; omega) hbig);have hbi:(4294967296:Int)<=(t:Int):=by omega
    rcases hC with hC | ⟨hC,hD⟩
    ·have hqq:(4294967296:Int)<=(q:Int):=by omega
     go_upto_region 21 with fail
     rw[show (q:Int)-1=(p:Int) by have:=HQ.out; omega];have hd0b:=HN.out.d0b;obtain⟨R,hR⟩:∃ R,R=(u*4294967296+d1)%v:=⟨_,rfl⟩
     have hRv:R<v:=by rw[hR]; exact Nat.mod_lt _ (by have:=HN.out.uv; omega)
     have hvb:v<18446744073709551616:=by have:=HN.out.vv; omega
     have HX:=hid (show p=(u*4294967296+d1)/v by rw[HN.out.vv]; exact HF.out);have hrun:=mJ HN.out.uv hvb hd1b HX.out;rw[<- hR] at hrun;have HR:=hid hR;obtain⟨q0,hq0⟩:∃ q,q=R/v1:=⟨_,rfl⟩
     obtain⟨r0,hr0⟩:∃ r,r=R%v1:=⟨_,rfl⟩
     have hqr:=aAp hq0;have hrr:=zV (by omega) hq0 hr0;have HJ0:=hid (show Dv.J R v1 v0 d0 q0 r0 by rw[hq0,hr0]; exact Dv.J.start HN.out.v0b v1a (by rw[<- HN.out.vv]; exact hRv) hd0b);have hrb0:r0<4294967296:=by
      have:=Nat.mod_lt R (show 0<v1 by omega);omega
     have hq0t:=HJ0.out.top;have hv1z:((v1:Int)==0)=false:=by rw[beq_eq_false_iff_ne]; omega
     clear hq0 hr0 hR HF HP HUV HPB HM HNN HTT hPi hmi hm1 hni hn1 hti ht1 HJ hd1i hri hqi hqt hrb
     go_upto_region 24 with fail
     go_loopw [18,16] (fun q r wr=>∃ q' r':Nat,q=.int .u64 q'/\r=.int .u64 r'/\Dv.J R v1 v0 d0 q' r'/\r'<4294967296/\w=wr) (fun _ r _=>4294967296-(intOf r).toNat)
     case atStart=>exact⟨q0,r0,rfl,rfl,HJ0.out,hrb0,rfl⟩
     case round =>
      clear hqr hrr HJ0 hrb0 hq0t hrun hv1z;obtain⟨c,r,rfl,rfl,hj,hrb,rfl⟩:=hrel;have HJ:=hid hj;have hct:=hj.top;clear hj;have hd0i:(d0:Int)<4294967296:=by omega
      have hri:(r:Int)<4294967296:=by omega
      have hci:(c:Int)<=4294967297:=by omega
      have huv:R<v1*4294967296+v0:=by rw[<- HN.out.vv]; exact hRv
      obtain⟨P,hP⟩:∃ P,P=c*v0:=⟨_,rfl⟩
      obtain⟨m,hm⟩:∃ m,m=4294967296*r:=⟨_,rfl⟩
      have hmi:(4294967296:Int)*(r:Int)=(m:Int):=by omega
      have hm1:(m:Int)<18446744069414584321:=by omega
      obtain⟨n,hn⟩:∃ n,n=m+d0:=⟨_,rfl⟩
      have hni:(m:Int)+(d0:Int)=(n:Int):=by omega
      have hn1:(n:Int)<18446744073709551616:=by omega
      obtain⟨t,ht⟩:∃ t,t=r+v1:=⟨_,rfl⟩
      have hti:(r:Int)+(v1:Int)=(t:Int):=by omega
      have ht1:(t:Int)<18446744073709551616:=by omega
      have hPi:(c:Int)*(v0:Int)=(P:Int):=by rw[hP,Int.natCast_mul]
      have hPb:c<4294967296->P<18446744073709551616:=by
       intro h;have:=Nat.mul_le_mul (show c<=4294967295 by omega) (show v0<=4294967295 by omega);omega
      have hcs:(4294967296<=c\/(c<4294967296/\n<P))\/(c<4294967296/\P<=n):=by omega
      have HM:=hid hm;have HNN:=hid hn;have HTT:=hid ht;clear hm hn ht;have HPB:=hid hPb;have HP:=hid hP;have HUV:=hid huv;clear hPb hP huv;rcases hcs with hC | ⟨hc1,hc2⟩
      ·obtain⟨z,hz,hJp⟩:=HJ.out.down v1a HUV.out hd0b (by rw[<- HP.out,<- HM.out,<- HNN.out]; omega);rw[<- HTT.out] at hJp;have HJP:=hid hJp;have hp1:(1:Int)<=(c:Int):=by omega
       have HQ0:=hid hz;clear hz hJp;by_cases hbig:4294967296<=t
       ·have HF:=hid (HJP.out.big hv0b v1a (by have:=HQ0.out; omega) hbig);have hbi:(4294967296:Int)<=(t:Int):=by omega
        rcases hC with hC | ⟨hC,hD⟩
        ·have hqq:(4294967296:Int)<=(c:Int):=by omega
         go_upto_region 28 with fail
         rw[show (c:Int)-1=(z:Int) by have:=HQ0.out; omega];have HY:=hid (show z=(R*4294967296+d0)/v by rw[HN.out.vv]; exact HF.out);obtain⟨f1,f2,f3,f4⟩:=pN HN.out (by omega) HX.out HR.out hRv HY.out;have g1:=pJ f1 f3 f4;have g2:=mJ hRv hvb hd0b HY.out;rw[f2] at g2;have g3:=pD (T:=(hi*18446744073709551616+lo)%y) (s:=s);obtain⟨A,hA⟩:∃ A,A=(hi*18446744073709551616+lo)/y:=⟨_,rfl⟩
         obtain⟨T,hT⟩:∃ T,T=(hi*18446744073709551616+lo)%y:=⟨_,rfl⟩
         rw[<- hA] at g1;rw[<- hT] at g2 g3;obtain⟨S,hS⟩:∃ S,S=T*2^s:=⟨_,rfl⟩
         rw[<- hS] at g2 g3;have HA:=hid hA;have HT:=hid hT;clear f1 f2 f3 f4 hA hT hS hPi hmi hm1 hni hn1 hti ht1 hri hci hd0i hct hrb;clear HP HM HNN HTT HPB HUV HJ HF;go_wp2;go_ret2;refine⟨?_,Below.refl _ _⟩;rw[<- HA.out,<- HT.out];rfl
        ·have hqq:¬ ((4294967296:Int)<=(c:Int)):=by omega
         have hDi:(n:Int)<(P:Int):=by omega
         have hPb:=HPB.out hC;have hPb2:(P:Int)<18446744073709551616:=by omega
         go_upto_region 28 with fail
         rw[show (c:Int)-1=(z:Int) by have:=HQ0.out; omega];have HY:=hid (show z=(R*4294967296+d0)/v by rw[HN.out.vv]; exact HF.out);obtain⟨f1,f2,f3,f4⟩:=pN HN.out (by omega) HX.out HR.out hRv HY.out;have g1:=pJ f1 f3 f4;have g2:=mJ hRv hvb hd0b HY.out;rw[f2] at g2;have g3:=pD (T:=(hi*18446744073709551616+lo)%y) (s:=s);obtain⟨A,hA⟩:∃ A,A=(hi*18446744073709551616+lo)/y:=⟨_,rfl⟩
         obtain⟨T,hT⟩:∃ T,T=(hi*18446744073709551616+lo)%y:=⟨_,rfl⟩
         rw[<- hA] at g1;rw[<- hT] at g2 g3;obtain⟨S,hS⟩:∃ S,S=T*2^s:=⟨_,rfl⟩
         rw[<- hS] at g2 g3;have HA:=hid hA;have HT:=hid hT;clear f1 f2 f3 f4 hA hT hS hPi hmi hm1 hni hn1 hti ht1 hri hci hd0i hct hrb;clear HP HM HNN HTT HPB HUV HJ HF;go_wp2;go_ret2;refine⟨?_,Below.refl _ _⟩;rw[<- HA.out,<- HT.out];rfl
       ·have hbi:¬ ((4294967296:Int)<=(t:Int)):=by omega
        rcases hC with hC | ⟨hC,hD⟩
        ·have hqq:(4294967296:Int)<=(c:Int):=by omega
         go_wp2
         go_roundw
         case rel=>exact⟨z,t,by have:=HQ0.out; congr 1; omega,rfl,HJP.out,by omega,trivial⟩
         case measure=>have:=HTT.out; simp[intOf]; omega
        ·have hqq:¬ ((4294967296:Int)<=(c:Int)):=by omega
         have hDi:(n:Int)<(P:Int):=by omega
         have hPb:=HPB.out hC;go_wp2
         go_roundw
         case rel=>exact⟨z,t,by have:=HQ0.out; congr 1; omega,rfl,HJP.out,by omega,trivial⟩
         case measure=>have:=HTT.out; simp[intOf]; omega
      ·have HF:=hid (HJ.out.exit v1a (by rw[<- HP.out,<- HM.out,<- HNN.out]; exact hc2));have hqq:¬ ((4294967296:Int)<=(c:Int)):=by omega
       have hDi:¬ ((n:Int)<(P:Int)):=by omega
       have hPb:=HPB.out hc1
       go_upto_region 28 with fail
       have HY:=hid (show c=(R*4294967296+d0)/v by rw[HN.out.vv]; exact HF.out);obtain⟨f1,f2,f3,f4⟩:=pN HN.out (by omega) HX.out HR.out hRv HY.out;have g1:=pJ f1 f3 f4;have g2:=mJ hRv hvb hd0b HY.out;rw[f2] at g2;have g3:=pD (T:=(hi*18446744073709551616+lo)%y) (s:=s);obtain⟨A,hA⟩:∃ A,A=(hi*18446744073709551616+lo)/y:=⟨_,rfl⟩
       obtain⟨T,hT⟩:∃ T,T=(hi*18446744073709551616+lo)%y:=⟨_,rfl⟩
       rw[<- hA] at g1;rw[<- hT] at g2 g3;obtain⟨S,hS⟩:∃ S,S=T*2^s:=⟨_,rfl⟩
       rw[<- hS] at g2 g3;have HA:=hid hA;have HT:=hid hT;clear f1 f2 f3 f4 hA hT hS hPi hmi hm1 hni hn1 hti ht1 hri hci hd0i hct hrb;clear HP HM HNN HTT HPB HUV HJ HF;go_wp2;go_ret2;refine⟨?_,Below.refl _ _⟩;rw[<- HA.out,<- HT.out];rfl
    ·have hqq:¬ ((4294967296:Int)<=(q:Int)):=by omega
     have hDi:(n:Int)<(P:Int):=by omega
     have hPb:=HPB.out hC;have hPb2:(P:Int)<18446744073709551616:=by omega
     go_upto_region 21 with fail
     rw[show (q:Int)-1=(p:Int) by have:=HQ.out; omega];have hd0b:=HN.out.d0b;obtain⟨R,hR⟩:∃ R,R=(u*4294967296+d1)%v:=⟨_,rfl⟩
     have hRv:R<v:=by rw[hR]; exact Nat.mod_lt _ (by have:=HN.out.uv; omega)
     have hvb:v<18446744073709551616:=by have:=HN.out.vv; omega
     have HX:=hid (show p=(u*4294967296+d1)/v by rw[HN.out.vv]; exact HF.out);have hrun:=mJ HN.out.uv hvb hd1b HX.out;rw[<- hR] at hrun;have HR:=hid hR;obtain⟨q0,hq0⟩:∃ q,q=R/v1:=⟨_,rfl⟩
     obtain⟨r0,hr0⟩:∃ r,r=R%v1:=⟨_,rfl⟩
     have hqr:=aAp hq0;have hrr:=zV (by omega) hq0 hr0;have HJ0:=hid (show Dv.J R v1 v0 d0 q0 r0 by rw[hq0,hr0]; exact Dv.J.start HN.out.v0b v1a (by rw[<- HN.out.vv]; exact hRv) hd0b);have hrb0:r0<4294967296:=by
      have:=Nat.mod_lt R (show 0<v1 by omega);omega
     have hq0t:=HJ0.out.top;have hv1z:((v1:Int)==0)=false:=by rw[beq_eq_false_iff_ne]; omega
     clear hq0 hr0 hR HF HP HUV HPB HM HNN HTT hPi hmi hm1 hni hn1 hti ht1 HJ hd1i hri hqi hqt hrb
     go_upto_region 24 with fail
     go_loopw [18,16] (fun q r wr=>∃ q' r':Nat,q=.int .u64 q'/\r=.int .u64 r'/\Dv.J R v1 v0 d0 q' r'/\r'<4294967296/\w=wr) (fun _ r _=>4294967296-(intOf r).toNat)
     case atStart=>exact⟨q0,r0,rfl,rfl,HJ0.out,hrb0,rfl⟩
     case round =>
      clear hqr hrr HJ0 hrb0 hq0t hrun hv1z;obtain⟨c,r,rfl,rfl,hj,hrb,rfl⟩:=hrel;have HJ:=hid hj;have hct:=hj.top;clear hj;have hd0i:(d0:Int)<4294967296:=by omega
      have hri:(r:Int)<4294967296:=by omega
      have hci:(c:Int)<=4294967297:=by omega
      have huv:R<v1*4294967296+v0:=by rw[<- HN.out.vv]; exact hRv
      obtain⟨P,hP⟩:∃ P,P=c*v0:=⟨_,rfl⟩
      obtain⟨m,hm⟩:∃ m,m=4294967296*r:=⟨_,rfl⟩
      have hmi:(4294967296:Int)*(r:Int)=(m:Int):=by omega
      have hm1:(m:Int)<18446744069414584321:=by omega
      obtain⟨n,hn⟩:∃ n,n=m+d0:=⟨_,rfl⟩
      have hni:(m:Int)+(d0:Int)=(n:Int):=by omega
      have hn1:(n:Int)<18446744073709551616:=by omega
      obtain⟨t,ht⟩:∃ t,t=r+v1:=⟨_,rfl⟩
      have hti:(r:Int)+(v1:Int)=(t:Int):=by omega
      have ht1:(t:Int)<18446744073709551616:=by omega
      have hPi:(c:Int)*(v0:Int)=(P:Int):=by rw[hP,Int.natCast_mul]
      have hPb:c<4294967296->P<18446744073709551616:=by
       intro h;have:=Nat.mul_le_mul (show c<=4294967295 by omega) (show v0<=4294967295 by omega);omega
      have hcs:(4294967296<=c\/(c<4294967296/\n<P))\/(c<4294967296/\P<=n):=by omega
      have HM:=hid hm;have HNN:=hid hn;have HTT:=hid ht;clear hm hn ht;have HPB:=hid hPb;have HP:=hid hP;have HUV:=hid huv;clear hPb hP huv;rcases hcs with hC | ⟨hc1,hc2⟩
      ·obtain⟨z,hz,hJp⟩:=HJ.out.down v1a HUV.out hd0b (by rw[<- HP.out,<- HM.out,<- HNN.out]; omega);rw[<- HTT.out] at hJp;have HJP:=hid hJp;have hp1:(1:Int)<=(c:Int):=by omega
       have HQ0:=hid hz;clear hz hJp;by_cases hbig:4294967296<=t
       ·have HF:=hid (HJP.out.big hv0b v1a (by have:=HQ0.out; omega) hbig);have hbi:(4294967296:Int)<=(t:Int):=by omega
        rcases hC with hC | ⟨hC,hD⟩
        ·have hqq:(4294967296:Int)<=(c:Int):=by omega
         go_upto_region 28 with fail
         rw[show (c:Int)-1=(z:Int) by have:=HQ0.out; omega];have HY:=hid (show z=(R*4294967296+d0)/v by rw[HN.out.vv]; exact HF.out);obtain⟨f1,f2,f3,f4⟩:=pN HN.out (by omega) HX.out HR.out hRv HY.out;have g1:=pJ f1 f3 f4;have g2:=mJ hRv hvb hd0b HY.out;rw[f2] at g2;have g3:=pD (T:=(hi*18446744073709551616+lo)%y) (s:=s);obtain⟨A,hA⟩:∃ A,A=(hi*18446744073709551616+lo)/y:=⟨_,rfl⟩
         obtain⟨T,hT⟩:∃ T,T=(hi*18446744073709551616+lo)%y:=⟨_,rfl⟩
         rw[<- hA] at g1;rw[<- hT] at g2 g3;obtain⟨S,hS⟩:∃ S,S=T*2^s:=⟨_,rfl⟩
         rw[<- hS] at g2 g3;have HA:=hid hA;have HT:=hid hT;clear f1 f2 f3 f4 hA hT hS hPi hmi hm1 hni hn1 hti ht1 hri hci hd0i hct hrb;clear HP HM HNN HTT HPB HUV HJ HF;go_wp2;go_ret2;refine⟨?_,Below.refl _ _⟩;rw[<- HA.out,<- HT.out];rfl
        ·have hqq:¬ ((4294967296:Int)<=(c:Int)):=by omega
         have hDi:(n:Int)<(P:Int):=by omega
         have hPb:=HPB.out hC;have hPb2:(P:Int)<18446744073709551616:=by omega
         go_upto_region 28 with fail
         rw[show (c:Int)-1=(z:Int) by have:=HQ0.out; omega];have HY:=hid (show z=(R*4294967296+d0)/v by rw[HN.out.vv]; exact HF.out);obtain⟨f1,f2,f3,f4⟩:=pN HN.out (by omega) HX.out HR.out hRv HY.out;have g1:=pJ f1 f3 f4;have g2:=mJ hRv hvb hd0b HY.out;rw[f2] at g2;have g3:=pD (T:=(hi*18446744073709551616+lo)%y) (s:=s);obtain⟨A,hA⟩:∃ A,A=(hi*18446744073709551616+lo)/y:=⟨_,rfl⟩
         obtain⟨T,hT⟩:∃ T,T=(hi*18446744073709551616+lo)%y:=⟨_,rfl⟩
         rw[<- hA] at g1;rw[<- hT] at g2 g3;obtain⟨S,hS⟩:∃ S,S=T*2^s:=⟨_,rfl⟩
         rw[<- hS] at g2 g3;have HA:=hid hA;have HT:=hid hT;clear f1 f2 f3 f4 hA hT hS hPi hmi hm1 hni hn1 hti ht1 hri hci hd0i hct hrb;clear HP HM HNN HTT HPB HUV HJ HF;go_wp2;go_ret2;refine⟨?_,Below.refl _ _⟩;rw[<- HA.out,<- HT.out];rfl
       ·have hbi:¬ ((4294967296:Int)<=(t:Int)):=by omega
        rcases hC with hC | ⟨hC,hD⟩
        ·have hqq:(4294967296:Int)<=(c:Int):=by omega
         go_wp2
         go_roundw
         case rel=>exact⟨z,t,by have:=HQ0.out; congr 1; omega,rfl,HJP.out,by omega,trivial⟩
         case measure=>have:=HTT.out; simp[intOf]; omega
        ·have hqq:¬ ((4294967296:Int)<=(c:Int)):=by omega
         have hDi:(n:Int)<(P:Int):=by omega
         have hPb:=HPB.out hC;go_wp2
         go_roundw
         case rel=>exact⟨z,t,by have:=HQ0.out; congr 1; omega,rfl,HJP.out,by omega,trivial⟩
         case measure=>have:=HTT.out; simp[intOf]; omega
      ·have HF:=hid (HJ.out.exit v1a (by rw[<- HP.out,<- HM.out,<- HNN.out]; exact hc2));have hqq:¬ ((4294967296:Int)<=(c:Int)):=by omega
       have hDi:¬ ((n:Int)<(P:Int)):=by omega
       have hPb:=HPB.out hc1
       go_upto_region 28 with fail
       have HY:=hid (show c=(R*4294967296+d0)/v by rw[HN.out.vv]; exact HF.out);obtain⟨f1,f2,f3,f4⟩:=pN HN.out (by omega) HX.out HR.out hRv HY.out;have g1:=pJ f1 f3 f4;have g2:=mJ hRv hvb hd0b HY.out;rw[f2] at g2;have g3:=pD (T:=(hi*18446744073709551616+lo)%y) (s:=s);obtain⟨A,hA⟩:∃ A,A=(hi*18446744073709551616+lo)/y:=⟨_,rfl⟩
       obtain⟨T,hT⟩:∃ T,T=(hi*18446744073709551616+lo)%y:=⟨_,rfl⟩
       rw[<- hA] at g1;rw[<- hT] at g2 g3;obtain⟨S,hS⟩:∃ S,S=T*2^s:=⟨_,rfl⟩
       rw[<- hS] at g2 g3;have HA:=hid hA;have HT:=hid hT;clear f1 f2 f3 f4 hA hT hS hPi hmi hm1 hni hn1 hti ht1 hri hci hd0i hct hrb;clear HP HM HNN HTT HPB HUV HJ HF;go_wp2;go_ret2;refine⟨?_,Below.refl _ _⟩;rw[<- HA.out,<- HT.out];rfl
   ·have hbi:¬ ((4294967296:Int)<=(t:Int)):=by omega
    rcases hC with hC | ⟨hC,hD⟩
    ·have hqq:(4294967296:Int)<=(q:Int):=by omega
     go_wp2
     go_roundw
     case rel=>exact⟨p,t,by have:=HQ.out; congr 1; omega,rfl,HJP.out,by omega,trivial⟩
     case measure=>have:=HTT.out; simp[intOf]; omega
    ·have hqq:¬ ((4294967296:Int)<=(q:Int)):=by omega
     have hDi:(n:Int)<(P:Int):=by omega
     have hPb:=HPB.out hC;go_wp2
     go_roundw
     case rel=>exact⟨p,t,by have:=HQ.out; congr 1; omega,rfl,HJP.out,by omega,trivial⟩
     case measure=>have:=HTT.out; simp[intOf]; omega
  ·have HF:=hid (HJ.out.exit v1a (by rw[<- HP.out,<- HM.out,<- HNN.out]; exact hc2));have hqq:¬ ((4294967296:Int)<=(q:Int)):=by omega
   have hDi:¬ ((n:Int)<(P:Int)):=by omega
   have hPb:=HPB.out hc1
   go_upto_region 21 with fail
   clear hc1 hc2 hDi hPb hqq;have hd0b:=HN.out.d0b;obtain⟨R,hR⟩:∃ R,R=(u*4294967296+d1)%v:=⟨_,rfl⟩
   have hRv:R<v:=by rw[hR]; exact Nat.mod_lt _ (by have:=HN.out.uv; omega)
   have hvb:v<18446744073709551616:=by have:=HN.out.vv; omega
   have HX:=hid (show q=(u*4294967296+d1)/v by rw[HN.out.vv]; exact HF.out);have hrun:=mJ HN.out.uv hvb hd1b HX.out;rw[<- hR] at hrun;have HR:=hid hR;obtain⟨q0,hq0⟩:∃ q,q=R/v1:=⟨_,rfl⟩
   obtain⟨r0,hr0⟩:∃ r,r=R%v1:=⟨_,rfl⟩
   have hqr:=aAp hq0;have hrr:=zV (by omega) hq0 hr0;have HJ0:=hid (show Dv.J R v1 v0 d0 q0 r0 by rw[hq0,hr0]; exact Dv.J.start HN.out.v0b v1a (by rw[<- HN.out.vv]; exact hRv) hd0b);have hrb0:r0<4294967296:=by
    have:=Nat.mod_lt R (show 0<v1 by omega);omega
   have hq0t:=HJ0.out.top;have hv1z:((v1:Int)==0)=false:=by rw[beq_eq_false_iff_ne]; omega
   clear hq0 hr0 hR HF HP HUV HPB HM HNN HTT hPi hmi hm1 hni hn1 hti ht1 HJ hd1i hri hqi hqt hrb
   go_upto_region 24 with fail
   go_loopw [18,16] (fun q r wr=>∃ q' r':Nat,q=.int .u64 q'/\r=.int .u64 r'/\Dv.J R v1 v0 d0 q' r'/\r'<4294967296/\w=wr) (fun _ r _=>4294967296-(intOf r).toNat)
   case atStart=>exact⟨q0,r0,rfl,rfl,HJ0.out,hrb0,rfl⟩
   case round =>
    clear hqr hrr HJ0 hrb0 hq0t hrun hv1z;obtain⟨c,r,rfl,rfl,hj,hrb,rfl⟩:=hrel;have HJ:=hid hj;have hct:=hj.top;clear hj;have hd0i:(d0:Int)<4294967296:=by omega
    have hri:(r:Int)<4294967296:=by omega
    have hci:(c:Int)<=4294967297:=by omega
    have huv:R<v1*4294967296+v0:=by rw[<- HN.out.vv]; exact hRv
    obtain⟨P,hP⟩:∃ P,P=c*v0:=⟨_,rfl⟩
    obtain⟨m,hm⟩:∃ m,m=4294967296*r:=⟨_,rfl⟩
    have hmi:(4294967296:Int)*(r:Int)=(m:Int):=by omega
    have hm1:(m:Int)<18446744069414584321:=by omega
    obtain⟨n,hn⟩:∃ n,n=m+d0:=⟨_,rfl⟩
    have hni:(m:Int)+(d0:Int)=(n:Int):=by omega
    have hn1:(n:Int)<18446744073709551616:=by omega
    obtain⟨t,ht⟩:∃ t,t=r+v1:=⟨_,rfl⟩
    have hti:(r:Int)+(v1:Int)=(t:Int):=by omega
    have ht1:(t:Int)<18446744073709551616:=by omega
    have hPi:(c:Int)*(v0:Int)=(P:Int):=by rw[hP,Int.natCast_mul]
    have hPb:c<4294967296->P<18446744073709551616:=by
     intro h;have:=Nat.mul_le_mul (show c<=4294967295 by omega) (show v0<=4294967295 by omega);omega
    have hcs:(4294967296<=c\/(c<4294967296/\n<P))\/(c<4294967296/\P<=n):=by omega
    have HM:=hid hm;have HNN:=hid hn;have HTT:=hid ht;clear hm hn ht;have HPB:=hid hPb;have HP:=hid hP;have HUV:=hid huv;clear hPb hP huv;rcases hcs with hC | ⟨hc1,hc2⟩
    ·obtain⟨z,hz,hJp⟩:=HJ.out.down v1a HUV.out hd0b (by rw[<- HP.out,<- HM.out,<- HNN.out]; omega);rw[<- HTT.out] at hJp;have HJP:=hid hJp;have hp1:(1:Int)<=(c:Int):=by omega
     have HQ0:=hid hz;clear hz hJp;by_cases hbig:4294967296<=t
     ·have HF:=hid (HJP.out.big hv0b v1a (by have:=HQ0.out; omega) hbig);have hbi:(4294967296:Int)<=(t:Int):=by omega
      rcases hC with hC | ⟨hC,hD⟩
      ·have hqq:(4294967296:Int)<=(c:Int):=by omega
       go_upto_region 28 with fail
       rw[show (c:Int)-1=(z:Int) by have:=HQ0.out; omega];have HY:=hid (show z=(R*4294967296+d0)/v by rw[HN.out.vv]; exact HF.out);obtain⟨f1,f2,f3,f4⟩:=pN HN.out (by omega) HX.out HR.out hRv HY.out;have g1:=pJ f1 f3 f4;have g2:=mJ hRv hvb hd0b HY.out;rw[f2] at g2;have g3:=pD (T:=(hi*18446744073709551616+lo)%y) (s:=s);obtain⟨A,hA⟩:∃ A,A=(hi*18446744073709551616+lo)/y:=⟨_,rfl⟩
       obtain⟨T,hT⟩:∃ T,T=(hi*18446744073709551616+lo)%y:=⟨_,rfl⟩
       rw[<- hA] at g1;rw[<- hT] at g2 g3;obtain⟨S,hS⟩:∃ S,S=T*2^s:=⟨_,rfl⟩
       rw[<- hS] at g2 g3;have HA:=hid hA;have HT:=hid hT;clear f1 f2 f3 f4 hA hT hS hPi hmi hm1 hni hn1 hti ht1 hri hci hd0i hct hrb;clear HP HM HNN HTT HPB HUV HJ HF;go_wp2;go_ret2;refine⟨?_,Below.refl _ _⟩;rw[<- HA.out,<- HT.out];rfl
      ·have hqq:¬ ((4294967296:Int)<=(c:Int)):=by omega
       have hDi:(n:Int)<(P:Int):=by omega
       have hPb:=HPB.out hC;have hPb2:(P:Int)<18446744073709551616:=by omega
       go_upto_region 28 with fail
       rw[show (c:Int)-1=(z:Int) by have:=HQ0.out; omega];have HY:=hid (show z=(R*4294967296+d0)/v by rw[HN.out.vv]; exact HF.out);obtain⟨f1,f2,f3,f4⟩:=pN HN.out (by omega) HX.out HR.out hRv HY.out;have g1:=pJ f1 f3 f4;have g2:=mJ hRv hvb hd0b HY.out;rw[f2] at g2;have g3:=pD (T:=(hi*18446744073709551616+lo)%y) (s:=s);obtain⟨A,hA⟩:∃ A,A=(hi*18446744073709551616+lo)/y:=⟨_,rfl⟩
       obtain⟨T,hT⟩:∃ T,T=(hi*18446744073709551616+lo)%y:=⟨_,rfl⟩
       rw[<- hA] at g1;rw[<- hT] at g2 g3;obtain⟨S,hS⟩:∃ S,S=T*2^s:=⟨_,rfl⟩
       rw[<- hS] at g2 g3;have HA:=hid hA;have HT:=hid hT;clear f1 f2 f3 f4 hA hT hS hPi hmi hm1 hni hn1 hti ht1 hri hci hd0i hct hrb;clear HP HM HNN HTT HPB HUV HJ HF;go_wp2;go_ret2;refine⟨?_,Below.refl _ _⟩;rw[<- HA.out,<- HT.out];rfl
     ·have hbi:¬ ((4294967296:Int)<=(t:Int)):=by omega
      rcases hC with hC | ⟨hC,hD⟩
      ·have hqq:(4294967296:Int)<=(c:Int):=by omega
       go_wp2
       go_roundw
       case rel=>exact⟨z,t,by have:=HQ0.out; congr 1; omega,rfl,HJP.out,by omega,trivial⟩
       case measure=>have:=HTT.out; simp[intOf]; omega
      ·have hqq:¬ ((4294967296:Int)<=(c:Int)):=by omega
       have hDi:(n:Int)<(P:Int):=by omega
       have hPb:=HPB.out hC;go_wp2
       go_roundw
       case rel=>exact⟨z,t,by have:=HQ0.out; congr 1; omega,rfl,HJP.out,by omega,trivial⟩
       case measure=>have:=HTT.out; simp[intOf]; omega
    ·have HF:=hid (HJ.out.exit v1a (by rw[<- HP.out,<- HM.out,<- HNN.out]; exact hc2));have hqq:¬ ((4294967296:Int)<=(c:Int)):=by omega
     have hDi:¬ ((n:Int)<(P:Int)):=by omega
     have hPb:=HPB.out hc1
     go_upto_region 28 with fail
     have HY:=hid (show c=(R*4294967296+d0)/v by rw[HN.out.vv]; exact HF.out);obtain⟨f1,f2,f3,f4⟩:=pN HN.out (by omega) HX.out HR.out hRv HY.out;have g1:=pJ f1 f3 f4;have g2:=mJ hRv hvb hd0b HY.out;rw[f2] at g2;have g3:=pD (T:=(hi*18446744073709551616+lo)%y) (s:=s);obtain⟨A,hA⟩:∃ A,A=(hi*18446744073709551616+lo)/y:=⟨_,rfl⟩
     obtain⟨T,hT⟩:∃ T,T=(hi*18446744073709551616+lo)%y:=⟨_,rfl⟩
     rw[<- hA] at g1;rw[<- hT] at g2 g3;obtain⟨S,hS⟩:∃ S,S=T*2^s:=⟨_,rfl⟩
     rw[<- hS] at g2 g3;have HA:=hid hA;have HT:=hid hT;clear f1 f2 f3 f4 hA hT hS hPi hmi hm1 hni hn1 hti ht1 hri hci hd0i hct hrb;clear HP HM HNN HTT HPB HUV HJ HF;go_wp2;go_ret2;refine⟨?_,Below.refl _ _⟩;rw[<- HA.out,<- HT.out];rfl
theorem aJ1 (hi lo y:Nat) (w:World) (hy:hi<y) (hy2:y<18446744073709551616) (hlo:lo<18446744073709551616) :
  Calls Tryz.prog 237 #[.int .u64 (hi:Int),.int .u64 (lo:Int),.int .u64 (y:Int)] w (xW (hi*18446744073709551616+lo) y w):=by
 rcases Nat.eq_zero_or_pos hi with rfl | h0
 ·have h:=aR9 lo y w hy hy2 hlo;rw[Nat.zero_mul,Nat.zero_add];exact h
 ·exact aUd hi lo y w h0 hy hy2 hlo
end Zn
end Go.Proofs.YtbaihklbefhgdaaGreat
