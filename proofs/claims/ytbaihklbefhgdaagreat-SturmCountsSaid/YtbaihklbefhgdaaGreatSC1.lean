/-
  
-/
import Derived.Lib.Hide
set_option linter.unusedVariables false
set_option linter.unusedSimpArgs false
set_option linter.unusedSectionVars false
namespace Go.Proofs.YtbaihklbefhgdaaGreat
namespace Dg
def val:List Nat->Nat
 | []=>0
 | d::ds=>d+1000000000*val ds
def aP (ds:List Nat):Prop:=∀ d∈ds,d<1000000000
def pZ:Nat->Nat->List Nat
 | 0,_=>[]
 | f+1,n=>if n=0 then [] else n%1000000000::pZ f (n/1000000000)
def aA (n:Nat):List Nat:=pZ n n
def dV:List Nat->List Nat
 | []=>[]
 | d::ds=>if d=0/\dV ds=[] then [] else d::dV ds
theorem aTz:∀ f g n,n<=f->n<=g->pZ f n=pZ g n:=by
 intro f
 induction f with
 | zero =>
  intro g n h1 _;obtain rfl:n=0:=by omega
  cases g<;>simp[pZ]
 | succ f ih =>
  intro g n h1 h2;by_cases hn:n=0
  ·subst hn;cases g<;>simp[pZ]
  ·obtain⟨g,rfl⟩:∃ k,g=k+1:=⟨g-1,by omega⟩
   simp only[pZ,hn,if_false];rw[ih g (n/1000000000) (by omega) (by omega)]
theorem gA:aA 0=[]:=rfl
theorem nC {n:Nat} (h:0<n):aA n=n%1000000000::aA (n/1000000000):=by
 obtain⟨k,rfl⟩:∃ k,n=k+1:=⟨n-1,by omega⟩
 show pZ (k+1) (k+1)=_;simp only[pZ,Nat.succ_ne_zero,if_false];rw[aTz k ((k+1)/1000000000) _ (by omega) (Nat.le_refl _)];rfl
theorem jF {n:Nat}:aA n=[] ↔ n=0:=by
 constructor
 ·intro h;rcases Nat.eq_zero_or_pos n with h0 | h0
  ·exact h0
  ·rw[nC h0] at h; cases h
 ·rintro rfl; rfl
theorem aX (n:Nat):val (aA n)=n:=by
 induction n using Nat.strongRecOn with
 | _ n ih =>
  rcases Nat.eq_zero_or_pos n with rfl | h0
  ·rfl
  ·rw[nC h0];simp only[val];rw[ih (n/1000000000) (by omega)];omega
theorem bF (n:Nat):aP (aA n):=by
 induction n using Nat.strongRecOn with
 | _ n ih =>
  rcases Nat.eq_zero_or_pos n with rfl | h0
  ·intro d hd; cases hd
  ·rw[nC h0];intro d hd;rcases List.mem_cons.1 hd with rfl | hd
   ·omega
   ·exact ih _ (by omega) d hd
theorem aAx {m n:Nat} (h:aA m=aA n):m=n:=by rw[<- aX m,h,aX]
theorem aP.tail {d:Nat} {ds:List Nat} (h:aP (d::ds)):aP ds:=fun x hx=>h x (List.mem_cons_of_mem _ hx)
theorem aP.head {d:Nat} {ds:List Nat} (h:aP (d::ds)):d<1000000000:=h d (List.mem_cons_self ..)
theorem aP.nil:aP []:=fun _ h=>by cases h
theorem aP.cons {d:Nat} {ds:List Nat} (h1:d<1000000000) (h:aP ds):aP (d::ds):=by
 intro x hx;rcases List.mem_cons.1 hx with rfl | hx
 ·exact h1
 ·exact h x hx
theorem aP.append {a b:List Nat} (h1:aP a) (h2:aP b):aP (a++b):=by
 intro x hx;rcases List.mem_append.1 hx with h | h
 ·exact h1 x h
 ·exact h2 x h
theorem aP.take {a:List Nat} (h:aP a) (k:Nat):aP (a.take k):=fun x hx=>h x (List.mem_of_mem_take hx)
theorem aP.drop {a:List Nat} (h:aP a) (k:Nat):aP (a.drop k):=fun x hx=>h x (List.mem_of_mem_drop hx)
theorem aP.at {a:List Nat} (h:aP a) {k:Nat} (hk:k<a.length):a[k]<1000000000:=h _ (List.getElem_mem hk)
theorem aP.getD {a:List Nat} (h:aP a) (k:Nat):a.getD k 0<1000000000:=by
 rw[List.getD_eq_getElem?_getD];rcases Nat.lt_or_ge k a.length with hk | hk
 ·rw[List.getElem?_eq_getElem hk]; exact h.at hk
 ·rw[List.getElem?_eq_none hk]; decide
theorem aP.set {a:List Nat} (h:aP a) (k d:Nat) (hd:d<1000000000):aP (a.set k d):=by
 intro x hx;rcases List.mem_or_eq_of_mem_set hx with h1 | h1
 ·exact h x h1
 ·rw[h1]; exact hd
theorem aP.replicate (k:Nat):aP (List.replicate k 0):=by
 intro x hx;rw[List.eq_of_mem_replicate hx]; decide
theorem aWc {d v:Nat} (hd:d<1000000000) (h:0<d+1000000000*v):aA (d+1000000000*v)=d::aA v:=by
 rw[nC h,show (d+1000000000*v)%1000000000=d from by omega,show (d+1000000000*v)/1000000000=v from by omega]
theorem nB:∀ {ds:List Nat},aP ds->aA (val ds)=dV ds:=by
 intro ds
 induction ds with
 | nil=>intro _; rfl
 | cons d ds ih =>
  intro h;have ih:=ih h.tail;have hd:=h.head;simp only[val,dV];by_cases h0:d=0/\dV ds=[]
  ·obtain⟨rfl,h1⟩:=h0;rw[if_pos ⟨rfl,h1⟩];rw[h1,jF] at ih;rw[ih]; rfl
  ·rw[if_neg h0,<- ih];refine aWc hd ?_;rcases Nat.eq_zero_or_pos (d+1000000000*val ds) with hz | hz
   ·exfalso;refine h0 ⟨by omega,?_⟩;rw[<- ih,show val ds=0 from by omega]; rfl
   ·exact hz
theorem aSg (n:Nat):dV (aA n)=aA n:=by rw[<- nB (bF n),aX]
theorem val_append (a b:List Nat):val (a++b)=val a+1000000000^a.length*val b:=by
 induction a with
 | nil=>simp[val]
 | cons d a ih =>
  simp only[List.cons_append,val,ih,List.length_cons,Nat.pow_succ,Nat.mul_add];rw[Nat.mul_comm (1000000000^a.length) 1000000000,Nat.mul_assoc];omega
theorem mP {ds:List Nat} (h:aP ds):val ds<1000000000^ds.length:=by
 induction ds with
 | nil=>simp[val]
 | cons d ds ih =>
  have:=ih h.tail;have:=h.head;simp only[val,List.length_cons,Nat.pow_succ];omega
theorem aG3 (k:Nat):val (List.replicate k 0)=0:=by
 induction k with
 | zero=>rfl
 | succ k ih=>simp only[List.replicate_succ,val,ih,Nat.mul_zero,Nat.add_zero]
theorem aG2 {a:List Nat} {k:Nat} (h:k<a.length):val (a.take (k+1))=val (a.take k)+1000000000^k*a[k]:=by
 rw[List.take_succ_eq_append_getElem h,val_append];simp[val,List.length_take,Nat.min_eq_left (Nat.le_of_lt h)]
theorem sA {a:List Nat} {k:Nat} (h:k<a.length):val (a.drop k)=a[k]+1000000000*val (a.drop (k+1)):=by
 rw[List.drop_eq_getElem_cons h]; rfl
theorem aDa (a:List Nat) (k:Nat) (h:k<=a.length):val a=val (a.take k)+1000000000^k*val (a.drop k):=by
 have:=val_append (a.take k) (a.drop k);rw[List.take_append_drop,List.length_take,Nat.min_eq_left h] at this;exact this
theorem aL1 {a:List Nat} {k:Nat} (h:k<a.length) (d:Nat):(val (a.set k d):Int)=(val a:Int)+1000000000^k*((d:Int)-(a[k]:Int)):=by
 induction a generalizing k with
 | nil=>simp at h
 | cons x a ih =>
  cases k with
  | zero=>simp only[List.set_cons_zero,val,List.getElem_cons_zero]; omega
  | succ k =>
   have:=ih (show k<a.length by simpa using h);simp only[List.set_cons_succ,val,List.getElem_cons_succ,Int.natCast_add,Int.natCast_mul,this,Int.pow_succ];rw[Int.mul_add,Int.mul_comm ((1000000000:Int)^k) (1000000000:Int),Int.mul_assoc];simp; omega
theorem yS (ds:List Nat):dV (ds++[0])=dV ds:=by
 induction ds with
 | nil=>rfl
 | cons d ds ih=>simp only[List.cons_append,dV,ih]
theorem aCs {d:Nat} (hd:d≠0) (ds:List Nat):dV (ds++[d])=ds++[d]:=by
 induction ds with
 | nil=>simp[dV,hd]
 | cons x ds ih=>simp[dV,ih]
theorem aG7 (ds:List Nat):(dV ds).length<=ds.length:=by
 induction ds with
 | nil=>simp[dV]
 | cons d ds ih =>
  simp only[dV];split
  ·simp
  ·simp; omega
theorem rW {a:List Nat} {k:Nat} (hk:0<k) (h:k<=a.length):a.take k=a.take (k-1)++[a.getD (k-1) 0]:=by
 obtain⟨j,rfl⟩:∃ j,k=j+1:=⟨k-1,by omega⟩
 rw[List.take_succ_eq_append_getElem (by omega)];simp[List.getD_eq_getElem?_getD,List.getElem?_eq_getElem (show j<a.length by omega)]
theorem fG {n k:Nat}:(aA n).length<=k ↔ n<1000000000^k:=by
 constructor
 ·intro h;have h1:=mP (bF n);rw[aX] at h1;exact Nat.lt_of_lt_of_le h1 (Nat.pow_le_pow_right (by decide) h)
 ·intro h
  induction k generalizing n with
  | zero =>
   obtain rfl:n=0:=by simpa using h
   simp[gA]
  | succ k ih =>
   rcases Nat.eq_zero_or_pos n with rfl | h0
   ·simp[gA]
   ·rw[nC h0,List.length_cons];have:n/1000000000<1000000000^k:=by
     rw[Nat.pow_succ] at h;exact Nat.div_lt_of_lt_mul (by rw[Nat.mul_comm]; exact h)
    have:=ih this;omega
theorem dW {m n:Nat} (h:m<=n):(aA m).length<=(aA n).length:=by
 refine fG.2 (Nat.lt_of_le_of_lt h ?_);exact fG.1 (Nat.le_refl _)
theorem vY {m n:Nat} (h:(aA m).length<(aA n).length):m<n:=by
 rcases Nat.lt_or_ge m n with h1 | h1
 ·exact h1
 ·have:=dW h1; omega
theorem wH (m n:Nat):(aA (m+n)).length<=max (aA m).length (aA n).length+1:=by
 refine fG.2 ?_;have h1:m<1000000000^max (aA m).length (aA n).length:=fG.1 (Nat.le_max_left _ _);have h2:n<1000000000^max (aA m).length (aA n).length:=fG.1 (Nat.le_max_right _ _);rw[Nat.pow_succ];omega
theorem aC2 (m n:Nat):(aA (m*n)).length<=(aA m).length+(aA n).length:=by
 refine fG.2 ?_;rw[Nat.pow_add];exact Nat.mul_lt_mul_of_lt_of_lt (fG.1 (Nat.le_refl _)) (fG.1 (Nat.le_refl _))
theorem aOz {a b:List Nat} {i:Nat} (ha:aP a) (hi:i<a.length) (hj:i<b.length) (hd:a.drop (i+1)=b.drop (i+1)) (h:a[i]<b[i]):val a<val b:=by
 rw[aDa a i (by omega),aDa b i (by omega),sA hi,sA hj,hd];have h1:=mP (ha.take i);rw[List.length_take,Nat.min_eq_left (by omega)] at h1;have h2:1000000000^i*(a[i]+1000000000*val (b.drop (i+1))+1)<=1000000000^i*(b[i]+1000000000*val (b.drop (i+1))):=Nat.mul_le_mul_left _ (by omega);rw[Nat.mul_add,Nat.mul_one] at h2;omega
theorem aEg {n:Nat} (h:0<n):(aA n).getD ((aA n).length-1) 0≠0:=by
 have hl:0<(aA n).length:=by
  rcases Nat.eq_zero_or_pos (aA n).length with h0 | h0
  ·rw[List.length_eq_zero_iff,jF] at h0; omega
  ·exact h0
 intro h0;have h1:=rW hl (Nat.le_refl (aA n).length);rw[List.take_length,h0] at h1;have h2:aA n=dV ((aA n).take ((aA n).length-1)):=by
  have h3:=congrArg dV h1;rw[aSg,yS] at h3;exact h3
 have h3:=aG7 ((aA n).take ((aA n).length-1));rw[<- h2,List.length_take] at h3;omega
theorem zN {n:Nat} (h0:0<n) (h:n<1000000000):aA n=[n]:=by
 rw[nC h0,show n/1000000000=0 from by omega,show n%1000000000=n from by omega,gA]
end Dg
end Go.Proofs.YtbaihklbefhgdaaGreat

namespace Go.Proofs.YtbaihklbefhgdaaGreat
namespace Dv
structure J (un v1 v0 d q r:Nat):Prop where
 sum:q*v1+r=un
 up:(un*4294967296+d)/(v1*4294967296+v0)<=q
 top:q<=4294967297
theorem aGi (q v1 v0:Nat):q*(v1*4294967296+v0)=q*v1*4294967296+q*v0:=by
 rw[Nat.mul_add,Nat.mul_assoc]
theorem J.start {un v1 v0 d:Nat} (h0:v0<4294967296) (h1:2147483648<=v1) (hu:un<v1*4294967296+v0) (hd:d<4294967296):J un v1 v0 d (un/v1) (un%v1):=by
 have hv:0<v1:=by omega
 refine⟨by rw[Nat.mul_comm]; exact Nat.div_add_mod un v1,?_,?_⟩
 ·rw[Nat.le_div_iff_mul_le hv];have h:=Nat.div_mul_le_self (un*4294967296+d) (v1*4294967296+v0);generalize (un*4294967296+d)/(v1*4294967296+v0)=q at *;rw[aGi] at h;omega
 ·have:un/v1<4294967298:=by
   rw[Nat.div_lt_iff_lt_mul hv];omega
  omega
theorem J.exit {un v1 v0 d q r:Nat} (h:J un v1 v0 d q r) (h1:2147483648<=v1) (hc:q*v0<=4294967296*r+d):q=(un*4294967296+d)/(v1*4294967296+v0):=by
 refine Nat.le_antisymm ?_ h.up;rw[Nat.le_div_iff_mul_le (by omega),aGi];have:=h.sum;omega
theorem J.big {un v1 v0 d q r:Nat} (h:J un v1 v0 d q r) (h0:v0<4294967296) (h1:2147483648<=v1) (hq:q<=4294967296) (hr:4294967296<=r):q=(un*4294967296+d)/(v1*4294967296+v0):=by
 refine h.exit h1 ?_;have:q*v0<=4294967296*v0:=Nat.mul_le_mul_right _ hq;omega
theorem J.down {un v1 v0 d q r:Nat} (h:J un v1 v0 d q r) (_h1:2147483648<=v1) (hu:un<v1*4294967296+v0) (hd:d<4294967296) (hc:4294967296<=q\/4294967296*r+d<q*v0):∃ p,q=p+1/\J un v1 v0 d p (r+v1):=by
 have hlt:(un*4294967296+d)/(v1*4294967296+v0)<q:=by
  rcases hc with hc | hc
  ·refine Nat.lt_of_lt_of_le ?_ hc;rw[Nat.div_lt_iff_lt_mul (by omega)];omega
  ·rw[Nat.div_lt_iff_lt_mul (by omega),aGi];have:=h.sum;omega
 obtain⟨p,rfl⟩:∃ p,q=p+1:=⟨q-1,(Nat.sub_add_cancel (Nat.lt_of_le_of_lt (Nat.zero_le _) hlt)).symm⟩
 refine⟨p,rfl,?_,Nat.le_of_lt_succ hlt,by have:=h.top; omega⟩;have:=h.sum;rw[Nat.succ_mul] at this;omega
theorem aMt {un v d:Nat} (hu:un<v) (hd:d<4294967296):(un*4294967296+d)/v<4294967296:=by
 rw[Nat.div_lt_iff_lt_mul (by omega)];omega
theorem aQ5 (W x v d0:Nat) (hv:0<v):(x*W+d0)/v=x/v*W+(x%v*W+d0)/v/\(x*W+d0)%v=(x%v*W+d0)%v:=by
 have e:x*W+d0=(x%v*W+d0)+v*(x/v*W):=by
  have h:=Nat.div_add_mod x v;rw[<- Nat.mul_assoc,Nat.add_right_comm,<- Nat.add_mul,Nat.add_comm (x%v),h]
 generalize hr:x%v=r at *;generalize hq:x/v=q at *;constructor
 ·rw[e,Nat.add_mul_div_left _ _ hv,Nat.add_comm]
 ·rw[e,Nat.add_mul_mod_self_left]
theorem aXa (n y s:Nat) (_hy:0<y):n*2^s/(y*2^s)=n/y/\n*2^s%(y*2^s)=n%y*2^s :=
 ⟨Nat.mul_div_mul_right _ _ (Nat.two_pow_pos s),Nat.mul_mod_mul_right _ _ _⟩
theorem aZ8 {p y N Y P pl yl B:Nat} (hB:0<B) (hp:p=N*P+pl) (hy:y=Y*P+yl) (hpl:pl<P) (hyl:yl<P) (hpy:p<B*y) (hY:B<=Y) :
  p/y<=N/Y/\N/Y<=p/y+1/\N/Y<=B:=by
 have hY0:0<Y:=by omega
 have hP0:0<P:=by omega
 have hy0:0<y:=by
  have:=Nat.mul_pos hY0 hP0;rw[hy];omega
 have hNB:N<B*(Y+1):=by
  refine Nat.lt_of_mul_lt_mul_right (a:=P) ?_;have h1:B*y<=B*((Y+1)*P):=Nat.mul_le_mul_left _ (by rw[Nat.succ_mul]; omega);rw[<- Nat.mul_assoc] at h1;refine Nat.lt_of_lt_of_le ?_ h1;refine Nat.lt_of_le_of_lt ?_ hpy;rw[hp];exact Nat.le_add_right _ _
 have hqB:N/Y<=B:=by
  have:N/Y<B+1:=by
   rw[Nat.div_lt_iff_lt_mul hY0,Nat.succ_mul];rw[Nat.mul_add,Nat.mul_one] at hNB;omega
  omega
 refine⟨?_,?_,hqB⟩
 ·rw[Nat.le_div_iff_mul_le hY0];have h1:=Nat.div_mul_le_self p y;generalize p/y=Q at *;have h2:Q*Y*P<=Q*y:=by
   rw[Nat.mul_assoc];exact Nat.mul_le_mul_left _ (by omega)
  have h3:Q*Y*P<(N+1)*P:=by rw[Nat.succ_mul]; omega
  have:=Nat.lt_of_mul_lt_mul_right h3;omega
 ·rcases Nat.eq_zero_or_pos (N/Y) with h0 | h0
  ·rw[h0]; exact Nat.zero_le _
  ·obtain⟨k,hk⟩:∃ k,N/Y=k+1:=⟨N/Y-1,by omega⟩
   have h1:=Nat.div_mul_le_self N Y;rw[hk] at h1 hqB |-;refine Nat.succ_le_succ ?_;rw[Nat.le_div_iff_mul_le hy0];rw[Nat.succ_mul] at h1;have h2:k*y<=k*((Y+1)*P):=Nat.mul_le_mul_left _ (by rw[Nat.succ_mul]; omega);rw[<- Nat.mul_assoc,Nat.mul_add,Nat.mul_one] at h2;have h3:(k*Y+k)*P<=N*P:=Nat.mul_le_mul_right _ (by omega);omega
end Dv
end Go.Proofs.YtbaihklbefhgdaaGreat

namespace Go.Proofs.YtbaihklbefhgdaaGreat
open Dg
namespace Dv
theorem norm {hi lo s:Nat} (hs:s<=64):(hi*2^s+lo/2^(64-s))*2^64+lo*2^s%2^64=(hi*2^64+lo)*2^s:=by
 have e:lo*2^s/2^64=lo/2^(64-s):=by
  have h:(2:Nat)^64=2^(64-s)*2^s:=by rw[<- Nat.pow_add]; congr 1; omega
  rw[h,Nat.mul_div_mul_right _ _ (Nat.two_pow_pos s)]
 have h:=Nat.div_add_mod (lo*2^s) (2^64);rw[e,Nat.mul_comm] at h;rw[Nat.add_mul,Nat.add_mul,Nat.add_assoc,h,Nat.mul_right_comm]
theorem aZa {a b s:Nat} (h:b<2^s):a*2^s ||| b=a*2^s+b:=by
 have:=Nat.shiftLeft_add_eq_or_of_lt h a;rw[Nat.shiftLeft_eq] at this;exact this.symm
theorem qJ (a:List Nat) (k:Nat):val (a.take (k+1))=val (a.take k)+1000000000^k*a.getD k 0:=by
 rcases Nat.lt_or_ge k a.length with h | h
 ·rw[aG2 h,List.getD_eq_getElem?_getD,List.getElem?_eq_getElem h]; rfl
 ·rw[List.take_of_length_le (by omega),List.take_of_length_le h,List.getD_eq_getElem?_getD,List.getElem?_eq_none h];simp
theorem aSi {done lo b:List Nat} {k e:Nat} {C q s:Int} (h1:done.length=k) (h6:(val done:Int)+1000000000^k*C=(val (lo.take k):Int)-q*(val (b.take k):Int))
  (hs:s=((lo.getD k 0:Nat):Int)-q*((b.getD k 0:Nat):Int)+C) (he:s%1000000000=(e:Int)) :
  (val (done++[e]):Int)+1000000000^(k+1)*(s/1000000000)=(val (lo.take (k+1)):Int)-q*(val (b.take (k+1)):Int):=by
 rw[val_append,h1,qJ lo,qJ b];simp only[val,Nat.mul_zero,Nat.add_zero,Int.natCast_add,Int.natCast_mul,Int.natCast_pow];have e0:(e:Int)+1000000000*(s/1000000000)=((lo.getD k 0:Nat):Int)-q*((b.getD k 0:Nat):Int)+C:=by rw[<- hs,<- he]; omega
 have e2:=congrArg (fun x=>(1000000000:Int)^k*x) e0;simp only[Int.mul_add,Int.mul_sub] at e2;rw[Int.pow_succ,Int.mul_add];rw[Int.mul_assoc ((1000000000:Int)^k) 1000000000,Int.mul_left_comm q];show (val done:Int)+1000000000^k*(e:Int)+_=_;generalize (1000000000:Int)^k*(e:Int)=e3 at *;generalize (1000000000:Int)^k*(1000000000*(s/1000000000))=e4 at *;generalize (1000000000:Int)^k*C=e5 at *;generalize (1000000000:Int)^k*((lo.getD k 0:Nat):Int)=e6 at *;generalize (1000000000:Int)^k*(q*((b.getD k 0:Nat):Int))=e7 at *;show _=((val (lo.take k):Nat):Int)+e6-(q*((val (b.take k):Nat):Int)+e7);generalize q*((val (b.take k):Nat):Int)=e9 at *;omega
theorem aL8 {q:Int} {d z:Nat} {C s:Int} (hq1 : -1<=q) (hq2:q<=1000000000) (hd:d<1000000000) (hz:z<1000000000) (hC1 : -1000000001<=C) (hC2:C<=1) (hs:s=(z:Int)-q*(d:Int)+C) :
  -1000000000<=q*(d:Int)/\q*(d:Int)<=999999999000000000 /\ -1000000001<=s/1000000000/\s/1000000000<=1:=by
 have a:=Int.mul_le_mul_of_nonneg_right hq2 (show (0:Int)<=(d:Int) by omega);have b:=Int.mul_le_mul_of_nonneg_right hq1 (show (0:Int)<=(d:Int) by omega);omega
theorem set_mid {α:Type} (pre:List α) (x y:α) (post:List α) {i:Nat} (h:pre.length=i):(pre++x::post).set i y=pre++y::post:=by
 subst h;rw[List.set_append_right _ _ (Nat.le_refl _),Nat.sub_self,List.set_cons_zero]
theorem aD9 {α:Type} (pre:List α) (x:α) (post:List α) (u:α) {i:Nat} (h:pre.length=i):(pre++x::post).getD i u=x:=by
 subst h;simp[List.getD_eq_getElem?_getD]
theorem aUl {v P t r:Int} (h0:0<=v) (h1:v<P) (h:v+P*t=r) (hr0:0<=r) (hr:r<P):t=0/\v=r:=by
 rcases Int.lt_trichotomy t 0 with ht | ht | ht
 ·have:=Int.mul_le_mul_of_nonneg_left (show t <= -1 by omega) (show 0<=P by omega);rw[Int.mul_neg,Int.mul_one] at this;omega
 ·subst ht;rw[Int.mul_zero] at h;exact⟨rfl,by omega⟩
 ·have:=Int.mul_le_mul_of_nonneg_left (show 1<=t by omega) (show 0<=P by omega);rw[Int.mul_one] at this;omega
theorem aW3 {v P t r:Int} (h0:0<=v) (h1:v<P) (h:v+P*t=r) (ht:0<=t):0<=r:=by
 have:=Int.mul_nonneg (show 0<=P by omega) ht;omega
theorem aW4 {v P t r:Int} (_h0:0<=v) (h1:v<P) (h:v+P*t=r) (ht:t<0):r<0:=by
 have:=Int.mul_le_mul_of_nonneg_left (show t <= -1 by omega) (show 0<=P by omega);rw[Int.mul_neg,Int.mul_one] at this;omega
theorem wG {a qs:List Nat} {y k q r R:Nat} (hk:k<a.length) (hq:k<qs.length) (h:val (a.drop (k+1))=y*val (qs.drop (k+1))+R) (hp:a.getD k 0+1000000000*R=y*q+r) :
  val (a.drop k)=y*val ((qs.set k q).drop k)+r:=by
 have e1:val ((qs.set k q).drop k)=q+1000000000*val (qs.drop (k+1)):=by
  rw[sA (by simpa using hq)];congr 1
  ·simp
  ·congr 2;rw[List.drop_set_of_lt (by omega)]
 have e2:val (a.drop k)=a.getD k 0+1000000000*val (a.drop (k+1)):=by
  rw[sA hk];congr 1;simp[List.getD_eq_getElem?_getD,hk]
 rw[e1,e2,h,Nat.mul_add,Nat.mul_add,Nat.mul_left_comm y 1000000000];generalize 1000000000*(y*val (qs.drop (k+1)))=X;generalize y*q=Y at *;omega
theorem aQ9 {x:Nat} {rr:List Nat}:∃ lo t,x::rr=lo++[t]/\lo.length=rr.length:=by
 refine⟨(x::rr).dropLast,(x::rr).getLast (by simp),(List.dropLast_concat_getLast (by simp)).symm,by simp⟩
theorem aJ6 (lo:List Nat) (t:Nat):val (lo++[t])=val lo+1000000000^lo.length*t:=by
 rw[val_append]; simp[val]
end Dv
end Go.Proofs.YtbaihklbefhgdaaGreat

namespace Go.Proofs.YtbaihklbefhgdaaGreat
namespace Lh
structure E (A B x0 y0 M P Q R S x y X Y:Int):Prop where
 hM:0<M
 a1:M*x0<=A
 a2:A<=M*x0+M
 b1:M*y0<=B
 b2:B<=M*y0+M
 hP:0<=P
 hQ:0<=Q
 hR:0<=R
 hS:0<=S
 hX:X=P*A-Q*B
 hY:Y=S*B-R*A
 hx:x=P*x0-Q*y0
 hy:y=S*y0-R*x0
 hQx:Q<=x
 hRy:R<=y
 i1:x0=S*x+Q*y
 i2:y0=R*x+P*y
theorem E.lowX {A B x0 y0 M P Q R S x y X Y:Int} (h:E A B x0 y0 M P Q R S x y X Y):M*(x-Q)<=X/\X<=M*(x+P):=by
 have h1:=Int.mul_le_mul_of_nonneg_left h.a1 h.hP;have h2:=Int.mul_le_mul_of_nonneg_left h.a2 h.hP;have h3:=Int.mul_le_mul_of_nonneg_left h.b1 h.hQ;have h4:=Int.mul_le_mul_of_nonneg_left h.b2 h.hQ;rw[h.hX,h.hx];have e1:M*(P*x0-Q*y0-Q)=P*(M*x0)-Q*(M*y0+M):=by grind
 have e2:M*(P*x0-Q*y0+P)=P*(M*x0+M)-Q*(M*y0):=by grind
 rw[e1,e2];omega
theorem E.lowY {A B x0 y0 M P Q R S x y X Y:Int} (h:E A B x0 y0 M P Q R S x y X Y):M*(y-R)<=Y/\Y<=M*(y+S):=by
 have h1:=Int.mul_le_mul_of_nonneg_left h.a1 h.hR;have h2:=Int.mul_le_mul_of_nonneg_left h.a2 h.hR;have h3:=Int.mul_le_mul_of_nonneg_left h.b1 h.hS;have h4:=Int.mul_le_mul_of_nonneg_left h.b2 h.hS;rw[h.hY,h.hy];have e1:M*(S*y0-R*x0-R)=S*(M*y0)-R*(M*x0+M):=by grind
 have e2:M*(S*y0-R*x0+S)=S*(M*y0+M)-R*(M*x0):=by grind
 rw[e1,e2];omega
theorem E.step {A B x0 y0 M P Q R S x y X Y k:Int} (h:E A B x0 y0 M P Q R S x y X Y) (_hk1:k*(y-R)<=x+P) (hk2:x+P<(k+1)*(y-R)) (hk3:k*(y+S)<=x-Q) (hk:0<=k) :
  E B A y0 x0 M S R (Q+k*S) (P+k*R) y (x-k*y) Y (X-k*Y)/\0<=X-k*Y/\X-k*Y<Y:=by
 obtain⟨l1,l2⟩:=h.lowX;obtain⟨l3,l4⟩:=h.lowY;have hkS:=Int.mul_nonneg hk h.hS;have hkR:=Int.mul_nonneg hk h.hR;refine⟨⟨h.hM,h.b1,h.b2,h.a1,h.a2,h.hS,h.hR,?_,?_,?_,?_,?_,?_,h.hRy,?_,?_,?_⟩,?_,?_⟩
 ·have:=h.hQ; omega
 ·have:=h.hP; omega
 ·exact h.hY
 ·rw[h.hX,h.hY]; grind
 ·exact h.hy
 ·rw[h.hx,h.hy]; grind
 ·rw[Int.mul_add] at hk3; omega
 ·have:=h.i2; grind
 ·have:=h.i1; grind
 ·have e1:=Int.mul_le_mul_of_nonneg_left l4 hk;have e2:=Int.mul_le_mul_of_nonneg_left hk3 (Int.le_of_lt h.hM);have e3:M*(k*(y+S))=k*(M*(y+S)):=Int.mul_left_comm ..;rw[e3] at e2;omega
 ·have e1:=Int.mul_lt_mul_of_pos_left hk2 h.hM;have e2:=Int.mul_le_mul_of_nonneg_left l3 (show 0<=k+1 by omega);have e3:M*((k+1)*(y-R))=(k+1)*(M*(y-R)):=Int.mul_left_comm ..;rw[e3] at e1;have e4:(k+1)*Y=k*Y+Y:=by grind
  rw[e4] at e2;omega
theorem E.small {A B x0 y0 M P Q R S x y X Y k:Int} (h:E A B x0 y0 M P Q R S x y X Y) (hk2:x+P<(k+1)*(y-R)) (hk3:k*(y+S)<=x-Q) (hk:0<=k) (hx0:x0<1000000000000000000) (hy0:y0<1000000000000000000) :
  0<=k*S/\0<=k*R/\Q+k*S<1000000000/\P+k*R<1000000000/\0<=k*y/\x-k*y<y/\0<=x-k*y:=by
 have hkS:=Int.mul_nonneg hk h.hS;have hkR:=Int.mul_nonneg hk h.hR;have hQ:=h.hQ;have hR:=h.hR;have hP:=h.hP;have hRy:=h.hRy;have hky:=Int.mul_nonneg hk (show 0<=y by omega);have e2:(k+1)*(y-R)=k*y+y-k*R-R:=by grind
 rw[e2] at hk2;rw[Int.mul_add] at hk3;have j1:y0=(P+k*R)*y+R*(x-k*y):=by have:=h.i2; grind
 have j2:x0=(Q+k*S)*y+S*(x-k*y):=by have:=h.i1; grind
 have n1:=Int.mul_nonneg h.hR (show 0<=x-k*y by omega);have n2:=Int.mul_nonneg h.hS (show 0<=x-k*y by omega);have key:∀ u v z:Int,0<=u->u<=y->z=u*y+v->0<=v->z<1000000000000000000->u<1000000000:=by
  intro u v z hu huy hz hv hlt;refine Int.lt_of_not_ge fun hge=>?_;have:=Int.mul_le_mul hge huy hu hu;have:=Int.mul_le_mul_of_nonneg_right hge (show (0:Int)<=1000000000 by decide);have:=Int.mul_le_mul_of_nonneg_left hge hu;omega
 refine⟨hkS,hkR,?_,?_,hky,by omega,by omega⟩
 ·exact key _ _ _ (by omega) (by omega) j2 n2 hx0
 ·exact key _ _ _ (by omega) (by omega) j1 n1 hy0
def T (A B x0 y0 M p q r s x y X Y:Int):Prop :=
 (∃ P Q R S,E A B x0 y0 M P Q R S x y X Y/\p=P/\q = -Q/\r = -R/\s=S)\/(∃ P Q R S,E B A y0 x0 M P Q R S x y X Y/\p = -Q/\q=P/\r=S/\s = -R)
theorem T.start {A B x0 y0 M:Int} (hM:0<M) (a1:M*x0<=A) (a2:A<=M*x0+M) (b1:M*y0<=B) (b2:B<=M*y0+M) (hx:0<=x0) (hy:0<=y0):T A B x0 y0 M 1 0 0 1 x0 y0 A B :=
 .inl ⟨1,0,0,1,⟨hM,a1,a2,b1,b2,by decide,by decide,by decide,by decide,by omega,by omega,by omega,by omega,by omega,by omega,by omega,by omega⟩,rfl,rfl,rfl,rfl⟩
theorem T.eqs {A B x0 y0 M p q r s x y X Y:Int} (h:T A B x0 y0 M p q r s x y X Y):X=p*A+q*B/\Y=r*A+s*B/\0<=x+p/\0<=x+q/\0<=y+r/\0<=y+s/\0<=x/\0<=y:=by
 rcases h with ⟨P,Q,R,S,h,rfl,rfl,rfl,rfl⟩ | ⟨P,Q,R,S,h,rfl,rfl,rfl,rfl⟩
 ·have:=h.hP; have:=h.hQ; have:=h.hR; have:=h.hS; have:=h.hQx; have:=h.hRy;refine⟨?_,?_,by omega,by omega,by omega,by omega,by omega,by omega⟩
  ·have:=h.hX; grind
  ·have:=h.hY; grind
 ·have:=h.hP; have:=h.hQ; have:=h.hR; have:=h.hS; have:=h.hQx; have:=h.hRy;refine⟨?_,?_,by omega,by omega,by omega,by omega,by omega,by omega⟩
  ·have:=h.hX; grind
  ·have:=h.hY; grind
theorem T.step {A B x0 y0 M p q r s x y X Y k:Int} (h:T A B x0 y0 M p q r s x y X Y) (h1:y+r≠0) (h2:y+s≠0) (hk1:k=(x+p)/(y+r)) (hk2:k=(x+q)/(y+s)) (hx0:x0<1000000000000000000) (hy0:y0<1000000000000000000) :
  T A B x0 y0 M r s (p-k*r) (q-k*s) y (x-k*y) Y (X-k*Y)/\0<=X-k*Y/\X-k*Y<Y /\
  (-1000000000<p-k*r/\p-k*r<1000000000 /\ -1000000000<q-k*s/\q-k*s<1000000000)/\0<=k/\0<=x-k*y/\x-k*y<y/\0<=k*y/\((p-k*r<=0/\0<=q-k*s)\/(0<=p-k*r/\q-k*s<=0)):=by
 obtain⟨-,-,p1,p2,p3,p4,-,-⟩:=h.eqs;have hk:0<=k:=by rw[hk1]; exact Int.ediv_nonneg p1 p3
 have d1:=Int.mul_ediv_add_emod (x+p) (y+r);have d2:=Int.emod_nonneg (x+p) h1;have d3:=Int.emod_lt_of_pos (x+p) (show 0<y+r by omega);have d4:=Int.mul_ediv_add_emod (x+q) (y+s);have d5:=Int.emod_nonneg (x+q) h2;have d6:=Int.emod_lt_of_pos (x+q) (show 0<y+s by omega);rw[<- hk1,Int.mul_comm] at d1;rw[<- hk2,Int.mul_comm] at d4;have c1:k*(y+r)<=x+p:=by omega
 have c2:x+p<(k+1)*(y+r):=by rw[Int.add_mul,Int.one_mul]; omega
 have c3:k*(y+s)<=x+q:=by omega
 have c4:x+q<(k+1)*(y+s):=by rw[Int.add_mul,Int.one_mul]; omega
 clear d1 d2 d3 d4 d5 d6 hk1 hk2;rcases h with ⟨P,Q,R,S,h,rfl,rfl,rfl,rfl⟩ | ⟨P,Q,R,S,h,rfl,rfl,rfl,rfl⟩
 ·have e1:y + -R=y-R:=Int.add_neg_eq_sub;have e2:x + -Q=x-Q:=Int.add_neg_eq_sub;rw[e1] at c1 c2;rw[e2] at c3;obtain⟨s1,s2,s3⟩:=h.step c1 c2 c3 hk;obtain⟨t1,t2,t3,t4,t5,t6,t7⟩:=h.small c2 c3 hk hx0 hy0;have f1:p-k * -R=p+k*R:=by grind
  have f2 : -Q-k*s = -(Q+k*s):=by grind
  rw[f1,f2];have:=h.hP;have:=h.hQ;refine⟨.inr ⟨s,R,Q+k*s,p+k*R,s1,rfl,rfl,rfl,rfl⟩,s2,s3,⟨by omega,by omega,by omega,by omega⟩,hk,t7,t6,t5,.inr ⟨by omega,by omega⟩⟩
 ·have e1:y + -R=y-R:=Int.add_neg_eq_sub;have e2:x + -Q=x-Q:=Int.add_neg_eq_sub;rw[e1] at c3 c4;rw[e2] at c1;obtain⟨s1,s2,s3⟩:=h.step c3 c4 c1 hk;obtain⟨t1,t2,t3,t4,t5,t6,t7⟩:=h.small c4 c1 hk hy0 hx0;have f1:q-k * -R=q+k*R:=by grind
  have f2 : -Q-k*r = -(Q+k*r):=by grind
  rw[f1,f2];have:=h.hP;have:=h.hQ;refine⟨.inl ⟨r,R,Q+k*r,q+k*R,s1,rfl,rfl,rfl,rfl⟩,s2,s3,⟨by omega,by omega,by omega,by omega⟩,hk,t7,t6,t5,.inl ⟨by omega,by omega⟩⟩
theorem aAd (X Y k:Int):Int.gcd Y (X-k*Y)=Int.gcd X Y:=by
 rw[Int.gcd_comm X Y];exact Int.gcd_sub_mul_right_right Y X k
end Lh
end Go.Proofs.YtbaihklbefhgdaaGreat
