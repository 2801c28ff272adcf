/-
  
-/
import Derived.Test.YtjmbkipbmbnhjaaGreatSA9
import Derived.Test.YtjmbkipbmbnhjaaGreatSA44
import Derived.Test.YtjmbkipbmbnhjaaGreatSA36
import Derived.Test.YtjmbkipbmbnhjaaGreatSA41
set_option linter.unusedVariables false
set_option linter.unusedSimpArgs false
set_option linter.unusedSectionVars false
namespace Go.Proofs.YtjmbkipbmbnhjaaGreat
open Go.RowKit
open Go.Lib (hid)
open Dg Zn
namespace Vc
set_option maxRecDepth 100000
def cX (a:Rat):Int:=bB a.num 0
theorem aMa (a:Rat) : -1<=cX a/\cX a<=1:=by
 unfold cX bB;split
 ·omega
 ·split<;>omega
theorem vR (p:List Rat) (x:Rat) (K Kx:Nat) (hp:p.length<=1000000) (hK:K<=1000000) (hKx:Kx<=1000000) (hK1:1<=K) (hKx1:1<=Kx) (hpz:aG p K=true) (hxz:aG [x] Kx=true) (hbd:iG K Kx p.length<=1000000):aD Tryz.prog 49 [PL p K,RT x Kx] (.one (.v (.int .i64 (cX (ev p x))))):=by
 refine aD.of (n:=9) Tryz.func49 rfl rfl rfl rfl rfl fun cx hfr=>?_;refine sr rfl ?_;refine p2 (bZ (i:=0)) ?_;refine xn ?_;refine RV.done (sr rfl ?_);refine xm ?_;refine p1 (aJ aC) ?_;refine xc (aSi p x K Kx hp hK hKx hK1 hKx1 hpz hxz hbd) Tryz.func99 (xb rfl rfl) hfr ?_;refine xc (yN _ _) Tryz.func98 (xa rfl) hfr ?_;refine xn ?_;refine RV.done ?_;refine CV.ret ?_;rw[aWa];exact aQ rfl (.inr rfl) rfl cE
def jP (x:Rat):List (List Rat)->Int × Int->Int × Int
 | [],s=>s
 | p::l,s=>jP x l (if cX (ev p x)*s.2<0 then s.1+1 else s.1,if cX (ev p x)≠0 then cX (ev p x) else s.2)
def bP (x:Rat) (l:List (List Rat)):Int:=(jP x l (0,0)).1
theorem aR4 {l:List (List Rat)} {k:Nat} (h:k<l.length):l.drop k=l.getD k []::l.drop (k+1):=by
 rw[List.drop_eq_getElem_cons h];simp[List.getD_eq_getElem?_getD,List.getElem?_eq_getElem h]
theorem aW0 {a b:Int} (ha : -1<=a/\a<=1) (hb : -1<=b/\b<=1) : -1<=a*b/\a*b<=1:=by
 rcases (by omega:a = -1\/a=0\/a=1) with rfl | rfl | rfl<;>omega
def fQ (l:List (List Rat)) (x:Rat) (K Kx:Nat):Prop:=K<=1000000/\Kx<=1000000/\1<=K/\1<=Kx/\aG [x] Kx=true/\∀ p∈l,p.length<=1000000/\aG p K=true/\iG K Kx p.length<=1000000
theorem sI (l:List (List Rat)) (x:Rat) (K Kx:Nat) (hl:l.length<=1000000) (hE:fQ l x K Kx):aD Tryz.prog 16 [gD l K,RT x Kx] (.one (.v (.int .i64 (bP x l)))):=by
 obtain⟨hK,hKx,hK1,hKx1,hxz,hall⟩:=hE;have hR:jP x (l.drop 0) (0,0)=jP x l (0,0):=by rw[List.drop_zero]
 refine aD.of (n:=30) Tryz.func16 rfl rfl rfl rfl rfl fun cx hfr=>?_;refine sr rfl ?_;refine p2 (bZ (i:=0)) ?_;refine xn ?_;refine RV.done (sr rfl ?_);refine xn ?_;refine xn ?_;refine RV.done ?_;refine CV.seq ?_;refine sr rfl ?_;refine xm ?_;refine p1 (bH iQ fJ) ?_;refine xm ?_;refine RV.done ?_;refine CV.block ?_;refine CV.loop (X:={z:Nat × Int × Int // z.1<=l.length/\jP x (l.drop z.1) z.2=jP x l (0,0)/\(0<=z.2.1/\z.2.1<=z.1)/\(-1<=z.2.2/\z.2.2<=1)}) (fun z=>[(.s 12,.av (.one (.v (.int .i64 (z.1.1:Int))))),(.s 11,.av (.one (.v (.int .i64 (l.length:Int))))),(.s 10,.av (.one (gD l K))),(.s 5,.av (.one (.v (.int .i64 z.1.2.1)))),(.s 6,.av (.one (.v (.int .i64 z.1.2.2)))),(.s 3,.av (.one (.ptr 0 0))),(.b 0,.blk 31 [(some 4,RT x Kx)])]) (fun z=>l.length-z.1.1) ⟨(0,0,0),Nat.zero_le _,hR,by decide,by decide⟩ (aZ.mk ⟨aB _,aB _,aB _,aB _,aB _,aB _,aB _,trivial⟩ rfl rfl) (fun z=>?_);obtain⟨⟨k,n,b⟩,hk,hs,hn,hb1⟩:=z;simp only at hk hs hn hb1 |-;refine sr rfl ?_;refine p1 (cM) ?_;refine RV.done ?_;refine CV.seq ?_;refine CV.cond rfl (fun hc=>?_) (fun hc=>?_)
 ·have hlt:k<l.length:=(by have:=of_decide_eq_true hc; omega)
  have hmem:l.getD k []∈l:=(by rw[List.getD_eq_getElem?_getD,List.getElem?_eq_getElem hlt]; exact List.getElem_mem _)
  obtain⟨q1,q2,q3⟩:=hall _ hmem;rw[aR4 hlt,jP] at hs;have hg:=aMa (ev (l.getD k []) x);have hm:=aW0 hg hb1;simp only at hs;refine CV.skip ?_;refine CV.seq ?_;refine CV.block ?_;refine sr rfl ?_;refine p1 (cH (k:=none) (i:=k) (pV hlt) fJ nP) ?_;refine p1 (bL cT) ?_;refine xn ?_;refine RV.done (sr rfl ?_);refine xm ?_;refine p1 (aJ aC) ?_;refine xc (vR (l.getD k []) x K Kx q1 hK hKx hK1 hKx1 q2 hxz q3) Tryz.func49 (xb rfl rfl) hfr ?_;refine xn ?_;refine RV.done ?_;refine CV.seq ?_;refine sr rfl ?_;refine xm ?_;refine xm ?_;refine p1 (aXb (c:=cX (ev (l.getD k []) x)*b) (bF (by omega) (by omega)) rfl rfl bd rfl rfl) ?_;refine p1 (cM) ?_;refine RV.done ?_;refine CV.cond rfl (fun hx1=>?_) (fun hx1=>?_)
  ·refine CV.region rfl (fun h=>nomatch h) ?_;refine xm ?_;refine p1 (cC (c:=n+1) (bF (by omega) (by omega)) rfl rfl bd rfl rfl) ?_;refine xn ?_;refine RV.done (sr rfl ?_);refine xm ?_;refine p1 (mX) ?_;refine RV.done ?_;refine CV.cond rfl (fun hx2=>?_) (fun hx2=>?_)
   ·refine CV.region rfl (fun h=>nomatch h) ?_;refine xm ?_;refine xn ?_;refine RV.done ?_;refine CV.region rfl (fun h=>nomatch h) ?_;refine p1 (cC (c:=((k+1:Nat):Int)) (by rw[bF (by omega) (by omega)]; omega) rfl rfl bd rfl rfl) ?_;refine xm ?_;refine RV.done ?_;have h1:=of_decide_eq_true hx1;have h2:cX (ev (l.getD k []) x)≠0:=(by simpa using hx2)
    rw[if_pos h1,if_pos h2] at hs;exact⟨⟨(k+1,n+1,cX (ev (l.getD k []) x)),hlt,hs,⟨by show 0<=n+1; omega,by show n+1<=((k+1:Nat):Int); omega⟩,hg⟩,aZ.mk ⟨aB _,aB _,aB _,aB _,aB _,aB _,aB _,trivial⟩ rfl rfl,by show l.length-(k+1)<l.length-k; omega⟩
   ·refine CV.skip ?_;refine CV.region rfl (fun h=>nomatch h) ?_;refine p1 (cC (c:=((k+1:Nat):Int)) (by rw[bF (by omega) (by omega)]; omega) rfl rfl bd rfl rfl) ?_;refine xm ?_;refine RV.done ?_;have h1:=of_decide_eq_true hx1;have h2:¬ cX (ev (l.getD k []) x)≠0:=(by simpa using hx2)
    rw[if_pos h1,if_neg h2] at hs;exact⟨⟨(k+1,n+1,b),hlt,hs,⟨by show 0<=n+1; omega,by show n+1<=((k+1:Nat):Int); omega⟩,hb1⟩,aZ.mk ⟨aB _,aB _,aB _,aB _,aB _,aB _,aB _,trivial⟩ rfl rfl,by show l.length-(k+1)<l.length-k; omega⟩
  ·refine CV.skip ?_;refine sr rfl ?_;refine xm ?_;refine p1 (mX) ?_;refine RV.done ?_;refine CV.cond rfl (fun hx2=>?_) (fun hx2=>?_)
   ·refine CV.region rfl (fun h=>nomatch h) ?_;refine xm ?_;refine xn ?_;refine RV.done ?_;refine CV.region rfl (fun h=>nomatch h) ?_;refine p1 (cC (c:=((k+1:Nat):Int)) (by rw[bF (by omega) (by omega)]; omega) rfl rfl bd rfl rfl) ?_;refine xm ?_;refine RV.done ?_;have h1:=of_decide_eq_false hx1;have h2:cX (ev (l.getD k []) x)≠0:=(by simpa using hx2)
    rw[if_neg h1,if_pos h2] at hs;exact⟨⟨(k+1,n,cX (ev (l.getD k []) x)),hlt,hs,⟨hn.1,by show n<=((k+1:Nat):Int); omega⟩,hg⟩,aZ.mk ⟨aB _,aB _,aB _,aB _,aB _,aB _,aB _,trivial⟩ rfl rfl,by show l.length-(k+1)<l.length-k; omega⟩
   ·refine CV.skip ?_;refine CV.region rfl (fun h=>nomatch h) ?_;refine p1 (cC (c:=((k+1:Nat):Int)) (by rw[bF (by omega) (by omega)]; omega) rfl rfl bd rfl rfl) ?_;refine xm ?_;refine RV.done ?_;have h1:=of_decide_eq_false hx1;have h2:¬ cX (ev (l.getD k []) x)≠0:=(by simpa using hx2)
    rw[if_neg h1,if_neg h2] at hs;exact⟨⟨(k+1,n,b),hlt,hs,⟨hn.1,by show n<=((k+1:Nat):Int); omega⟩,hb1⟩,aZ.mk ⟨aB _,aB _,aB _,aB _,aB _,aB _,aB _,trivial⟩ rfl rfl,by show l.length-(k+1)<l.length-k; omega⟩
 ·refine CV.exit ?_;refine CV.seq ?_;have hk2:k=l.length:=(by have:=of_decide_eq_false hc; omega)
  rw[hk2,List.drop_length,jP] at hs;have hn2:n=bP x l:=(by rw[bP,<- hs])
  rw[hn2];refine CV.region rfl (fun h=>nomatch h) ?_;refine xm ?_;refine xn ?_;refine RV.done ?_;refine CV.ret ?_;exact aQ rfl (.inr rfl) rfl cE
theorem aLv (x:Rat):∀ (l:List (List Rat)) (s:Int × Int),s.1<=(jP x l s).1/\(jP x l s).1<=s.1+l.length
 | [],s=>by rw[jP]; exact⟨Int.le_refl _,by simp⟩
 | p::l,s=>by
  rw[jP];obtain⟨A,hA⟩:∃ A,A=(if cX (ev p x)*s.2<0 then s.1+1 else s.1):=⟨_,rfl⟩
  rw[<- hA];have h:=aLv x l (A,if cX (ev p x)≠0 then cX (ev p x) else s.2);have h1:s.1<=A/\A<=s.1+1:=by rw[hA]; split<;>omega
  generalize (jP x l (A,if cX (ev p x)≠0 then cX (ev p x) else s.2)).1=C at h |-;have h2:A<=C/\C<=A+l.length:=h;rw[List.length_cons];omega
theorem mV (x:Rat) (l:List (List Rat)):0<=bP x l/\bP x l<=l.length:=by
 have:=aLv x l (0,0);simp only at this;unfold bP;omega
def kZ (l:List (List Rat)) (lo hi:Rat):Int:=if iW lo hi >= 0 then 0 else bP lo l-bP hi l
theorem aIr (p:List Rat) (L:List (List Rat × Rat)) (lo hi:Rat) (B K:Nat) (hB:B<=300000) (hp:p.length<=1000000) (h:lQ B p=some L) (hL:L.length<=1000000) (h1:fQ (L.map (·.1)) lo B K) (h2:fQ (L.map (·.1)) hi B K):aD Tryz.prog 25 [PL p B,RT lo K,RT hi K] (.one (.v (.int .i64 (kZ (L.map (·.1)) lo hi)))):=by
 have hll:(L.map (·.1)).length<=1000000:=by rw[List.length_map]; exact hL
 have b1:=mV lo (L.map (·.1));have b2:=mV hi (L.map (·.1));have hK7:=h1.2.1;refine aD.of (n:=21) Tryz.func25 rfl rfl rfl rfl rfl fun cx hfr=>?_;refine sr rfl ?_;refine p2 (bZ (i:=0)) ?_;refine p2 (bZ (i:=1)) ?_;refine xn ?_;refine RV.done ?_;refine CV.seq ?_;refine sr rfl ?_;refine p1 (aJ aC) ?_;refine p1 (aJ aC) ?_;refine xd rfl (aBm lo hi K K (by omega) (by omega)) Tryz.func55 (xb rfl rfl) hfr ?_;refine p1 (rT) ?_;refine RV.done ?_;refine CV.cond rfl (fun hc=>?_) (fun hc=>?_)
 ·refine sr rfl ?_;refine xn ?_;refine RV.done ?_;refine CV.ret ?_;rw[kZ,if_pos (of_decide_eq_true hc)];exact aQ rfl (.inr rfl) rfl cE
 ·refine CV.skip ?_;refine sr rfl ?_;refine xm ?_;refine xc (aHl p L B hB hp h hL) Tryz.func64 (xa rfl) hfr ?_;refine xn ?_;refine RV.done ?_;refine CV.seq ?_;refine CV.region rfl (fun _=>by kernel_rfl) ?_;refine xm ?_;refine p1 (aJ aC) ?_;refine xc (sI (L.map (·.1)) lo B K hll h1) Tryz.func16 (xb rfl rfl) hfr ?_;refine xm ?_;refine p1 (aJ aC) ?_;refine xc (sI (L.map (·.1)) hi B K hll h2) Tryz.func16 (xb rfl rfl) hfr ?_;refine p1 (dM (c:=bP lo (L.map (·.1))-bP hi (L.map (·.1))) (bF (by omega) (by omega)) rfl rfl bd rfl rfl) ?_;refine xn ?_;refine bQ (by kernel_rfl) ?_;refine CV.ret ?_;rw[kZ,if_neg (of_decide_eq_false hc)];exact aQ rfl (.inr rfl) rfl cE
theorem aB3 (lo hi:Rat) (j k:Nat) (hj:j<=1000000) (hk:k<=1000000):aD Tryz.prog 69 [RT lo j,RT hi k] (.one (RT ((lo+hi)*Rat.divInt 1 2) (3*(3*(j+k)+20+6)+20))):=by
 refine aD.of (n:=10) Tryz.func69 rfl rfl rfl rfl rfl fun cx hfr=>?_;refine sr rfl ?_;refine p2 (bZ (i:=0)) ?_;refine p2 (bZ (i:=1)) ?_;refine p2 (aU (i:=2) bY) ?_;refine RV.done (sr rfl ?_);refine p1 (aJ aC) ?_;refine p1 (aJ aC) ?_;refine xd rfl (vY lo hi j k (by omega) (by omega)) Tryz.func56 (xb rfl rfl) hfr ?_;refine xd rfl (oZ 1 2 (by decide) (by decide) (by decide) (by decide)) Tryz.func57 (xb rfl rfl) hfr ?_;refine xd rfl (nS (lo+hi) (Rat.divInt 1 2) (3*(j+k)+20) 6 (by omega) (by omega)) Tryz.func87 (xb rfl rfl) hfr ?_;refine p1 (aP (aC).2) ?_;refine RV.done ?_;refine CV.ret ?_;exact aQ rfl (.inr rfl) ⟨_,_,_,_,_,rfl,rfl,rfl,aC⟩ cE
end Vc
end Go.Proofs.YtjmbkipbmbnhjaaGreat

namespace Go.Proofs.YtjmbkipbmbnhjaaGreat
open Go.RowKit
open Dg Zn
namespace Vc
inductive Chn:List Rat->List Rat->List (List Rat)->Prop
 | nil (a:List Rat):Chn a [] []
 | cons {a b r:List Rat} {l:List (List Rat)}:aI b=b->b≠[]->aI r=r->r.length<b.length->(∃ W:List Rat,∀ x,ev a x+ev r x=ev W x*ev b x)->Chn b r l->Chn a b (b::l)
inductive lS (B:Nat):List Rat->List Rat->List (List Rat)->Prop
 | nil (a:List Rat):lS B a [] []
 | cons {a b U R:List Rat} {l:List (List Rat)}:aI a=a->aG a B=true->aI b=b->b≠[]->aG b B=true->dV B a b=some (U,R)->R.length<b.length->aG R B=true->lS B b (aT R (-1)) l->lS B a b (b::l)
structure Elm (M X:Nat) (e:List Rat × Rat):Prop where
 tr:aI e.1=e.1
 ne:e.1≠[]
 len:e.1.length<=M
 pos:0<e.2
 cm:Cm 1 e.1 X
 few:eD e.2 (2*X)
 cb:Cb (aT e.1 e.2) X
theorem aS1 {p:List Rat} {a:Rat} (hp:aI p=p) (h0:p≠[]) (ha:a≠0):aT p a≠[]:=by
 intro h;have:=(lE hp ha).1;rw[h] at this;exact h0 (List.eq_nil_of_length_eq_zero this.symm)
theorem aJv {p:List Rat} {c:Nat} (h:Cb p c):eD (aH p) c:=h.few (p.length-1)
theorem aUh {B Z M X:Nat} (hB:1<=B) (hZ:Z<=5*5*2^(M-1)*X) (hXB:6*X<=29*B) :
  ∀ (f:Nat) (l:List (List Rat × Rat)) (p q:List Rat) (s t:Rat) (c d:Nat),l.getD (l.length-1) ([],0)=(p,s)->q.length<f->aI p=p->aI q=q->p≠[]->q.length<p.length->p.length<=M->Cm 1 p c->Cm 1 q d->Cb (aT p s) c->Cb (aT q t) d->c<=X->d<=X->(2*(c+1)+5*(d+1))*gB M p.length<=Z->0<s->eD s (2*X)->(q≠[]->0<t/\eD t (2*X)) ->
  ∃ es,lA B f l (q,t)=some (l++es)/\(∀ z∈es,Elm M X z)/\es.length<=q.length/\lS B (aT p s) (aT q t) (es.map fun z=>aT z.1 z.2):=by
 intro f
 induction f with
 | zero=>intro l p q s t c d _ h; omega
 | succ f ih =>
  intro l p q s t c d hl hf tp tq hp0 hlt hpM hpc hqd hpa hqa hcX hdX hP hs fs ht;rw[lA];by_cases hq:0<q.length
  ·rw[if_pos hq,hl];have hq0:q≠[]:=List.length_pos_iff.1 hq;obtain⟨ht0,ft⟩:=ht hq0;have ht1:t≠0:=by grind
   have hs1:s≠0:=by grind
   have hti:=Rat.mul_inv_cancel t ht1;obtain⟨g,hg⟩:∃ g,p.length=q.length+g:=⟨p.length-q.length,by omega⟩
   have hsteps:p.length+1-q.length=g+1:=by omega
   rw[hg] at hP;have hW:=aCv (by omega) (by omega) hP;have hbd:=vF hq (by omega) (Nat.le_trans (Nat.mul_le_mul_right _ (show 5*(c+(g+1)*(d+1)+1)<=_ by omega)) hW) hZ;have hmul:(g+1)*(d+1)=(g+1)*d+(g+1):=by rw[Nat.mul_add,Nat.mul_one]
   obtain⟨R,T,r1,r2,r3,r4,r5,r6,W,r7⟩:=aUq (s:=s) (t:=t) (e:=2*X) hB tp hp0 tq hq0 hpc hqd fs hs (by unfold uN; rw[hsteps]; omega) (by unfold uN; rw[hsteps]; omega);rw[hsteps] at r4 r5;obtain⟨la,_⟩:=lE tp hs1;obtain⟨lb,_⟩:=lE tq ht1;have hb0:=aS1 tq hq0 ht1;obtain⟨U,R',k1,k2,k3,k4,k5,k6,k7,k8⟩:=vN (p:=aT p s) (q:=aT q t) hB (cN _) (cN _) hb0 hpa hqa (by unfold jO; rw[la,lb,hsteps]; omega);have k8':Cb R' (c+(g+1)*(d+1)):=by
    unfold jO at k8;rw[la,lb,hsteps] at k8;exact k8.mono (by omega)
   have hlR:=mN R T;have hz:kL (aT R T) R'=[]:=by
    refine aHo (q:=aT q t) (cN _) (cN _) ?_ ⟨kX (aT W t⁻¹) U,fun x=>?_⟩
    ·have:=aKd (aT R T) R';omega
    ·have h1:=r7 x;have h2:=k6 x;rw[cP,cP] at h2;rw[qI,qH,cP,cP,cP];grind
   have hr:aT R T=aT R' (-1):=mF (cN _) (cN _) fun x=>by
    have:=qI (aT R T) R' x;rw[hz,ev] at this;rw[cP R' (-1)];grind
   have hra:Cb (aT R T) (c+(g+1)*(d+1)):=by
    rw[hr];exact k8'.scale aXi
   have fT:R≠[]->0<T/\eD T (2*X):=fun h0=>by
    have hT:=r6 h0;have hT1:T≠0:=by grind
    have e1:=(lE r2 hT1).2;have hl0:=fE r2 h0;have hli:=Rat.mul_inv_cancel _ hl0;have e2:T=aH (aT R T)*(aH R)⁻¹:=by
     rw[e1];grind
    refine⟨hT,?_⟩;rw[e2];exact yZ (aD6 (aJv hra) (aD7 hl0 (aJv (mY r4)))) (by omega)
   obtain⟨es,j1,j2,j3,j4⟩:=ih (l++[(q,t)]) q R t T d (c+(g+1)*(d+1)) (by
     rw[List.getD_eq_getElem?_getD,List.length_append,List.length_singleton,Nat.add_sub_cancel,List.getElem?_append_right (Nat.le_refl _),Nat.sub_self];rfl) (by omega) tq r2 hq0 (by omega) (by omega) hqd r4 hqa hra hdX (by omega) hW ht0 ft fT
   refine⟨(q,t)::es,?_,?_,?_,?_⟩
   ·rw[r1];show lA B f (l++[(q,t)]) (R,T)=_;rw[j1,List.append_assoc];rfl
   ·intro z hz;rcases List.mem_cons.1 hz with rfl | hz
    ·exact⟨tq,hq0,by show q.length<=M; omega,ht0,hqd.mono hdX,ft,hqa.mono hdX⟩
    ·exact j2 z hz
   ·rw[List.length_cons];omega
   ·refine lS.cons (b:=aT q t) (R:=R') (cN _) (hpa.sz hB (by omega)) (cN _) hb0 (hqa.sz hB (by omega)) k1 k4 (k8'.sz hB (by omega)) ?_;rw[<- hr];exact j4
  ·rw[if_neg hq];obtain rfl:=List.eq_nil_of_length_eq_zero (show q.length=0 by omega);exact⟨[],by rw[List.append_nil],(fun z hz=>nomatch hz),Nat.le_refl _,.nil _⟩
theorem aJ8 {p:List Rat} {c:Nat} (h:Cb p c):∃ κ:Rat,κ≠0/\∀ k,∃ z:Int,p.getD k 0 = κ*(z:Rat)/\z.natAbs<=2^c:=by
 obtain⟨m,m1,m2,m3⟩:=h;have hm:=oY m1;have hi:=Rat.mul_inv_cancel _ hm;refine⟨(m:Rat)⁻¹,fun e=>?_,fun k=>?_⟩
 ·rw[e] at hi;grind
 ·obtain⟨z,z1,z2⟩:=m3 k;exact⟨z,by rw[<- z1]; grind,z2⟩
theorem aD5:eD 1 0:=⟨1,1,by decide,by rw[lI]; rfl,by decide,by decide⟩
theorem aUf {B M c X:Nat} {p F:List Rat} (hB:1<=B) (hF:kW B p=some F) (tF:aI F=F) (F0:F≠[]) (hFM:F.length<=M) (hM8:M<=8) (hc:Cb F c) (hX:(7*(c+4))*5^M<=5*5*2^(M-1)*X) (hcX:c+3<=X) (hXB:6*X<=29*B) :
  ∃ L,lQ B p=some L/\L.length<=M/\(∀ z∈L,Elm M X z)/\∃ l,L.map (fun z=>aT z.1 z.2)=F::l/\lS B F (cJ F) l:=by
 have hFl:=List.length_pos_iff.2 F0;have hM1:1<=M:=by omega
 have dl:=uZ F;have hd:Cb (cJ F) (c+3):=hc.derive (t:=3) (by omega);have s1:aG [(1:Rat)] B=true:=nU hB (Nat.zero_le _) aD5;have s2:aG (cJ F) B=true:=hd.sz hB (by omega);obtain⟨κ,κ0,κ1⟩:=aJ8 hc;obtain⟨A,s,a1,a2,a3,a4,a5,a6,a,a7,a8,a9⟩:=aCx hB tF F0 hc aD5 (by omega) (by omega) κ0 κ1;have hs:=a6 (by decide);have eF:aT A s=F:=mF (cN _) tF fun x=>by
  rw[cP,a8];have:a*ev F x*s=s*a*ev F x:=by grind
  rw[this,a9,Rat.one_mul]
 have hAl:A≠[]:=fun q=>by rw[q] at a3; exact F0 (List.eq_nil_of_length_eq_zero a3.symm)
 have second:∃ (D:List Rat) (t:Rat),gV B (cJ F) 1=some (D,t)/\aI D=D/\D.length<=F.length-1/\Cm 1 D (c+3)/\(D≠[]->0<t/\eD t (2*X))/\aT D t=cJ F:=by
  by_cases h0:cJ F=[]
  ·refine⟨[],0,by unfold gV; rw[if_pos h0],rfl,Nat.zero_le _,fun k=>⟨0,by rw[dC (Nat.zero_le _),Rat.zero_mul]; rfl,Nat.zero_le _⟩,fun h=>absurd rfl h,by rw[h0]; rfl⟩
  ·obtain⟨κ',κ2,κ3⟩:=aJ8 hd;obtain⟨D,t,d1,d2,d3,d4,d5,d6,b,d7,d8,d9⟩:=aCx (p:=cJ F) hB (cN _) h0 hd aD5 (by omega) (by omega) κ2 κ3;refine⟨D,t,d1,d2,by rw[d3]; exact dl,d4,fun _=>⟨d6 (by decide),yZ d5 (by omega)⟩,mF (cN _) (cN _) fun x=>?_⟩;rw[cP,d8];have:b*ev (cJ F) x*t=t*b*ev (cJ F) x:=by grind
   rw[this,d9,Rat.one_mul]
 obtain⟨D,t,d1,d2,d3,d4,d6,d7⟩:=second;have hpot:(2*(c+1)+5*(c+3+1))*gB M A.length<=5*5*2^(M-1)*X:=by
  refine Nat.le_trans (Nat.mul_le_mul (show 2*(c+1)+5*(c+3+1)<=7*(c+4) by omega) (aEj (by omega))) hX
 obtain⟨es,k1,k2,k3,k4⟩:=aUh hB hpot hXB (F.length+2) [(A,s)] A D s t c (c+3) rfl (by omega) a2 d2 hAl (by omega) (by omega) a4 d4 (by rw[eF]; exact hc) (by rw[d7]; exact hd) (by omega) (by omega) (Nat.le_refl _) hs (yZ a5 (by omega)) d6;refine⟨(A,s)::es,?_,by rw[List.length_cons]; omega,?_,es.map (fun z=>aT z.1 z.2),by rw[List.map_cons,eF],by rw[eF,d7] at k4; exact k4⟩
 ·unfold lQ;rw[hF];show (if F=[] then some [] else if (aG [(1:Rat)] B&&(aG (cJ F) B&&decide (F.length<=1000)))=true then (gV B F 1).bind fun a=>(gV B (cJ F) 1).bind fun b=>lA B (F.length+2) [a] b else none)=_;rw[if_neg F0,s1,s2,decide_eq_true (show F.length<=1000 by omega),if_pos (by rfl),a1];show ((gV B (cJ F) 1).bind fun b=>lA B (F.length+2) [(A,s)] b)=_;rw[d1];exact k1
 ·intro z hz;rcases List.mem_cons.1 hz with rfl | hz
  ·exact⟨a2,hAl,by show A.length<=M; omega,hs,a4.mono (by omega),yZ a5 (by omega),by show Cb (aT A s) X; rw[eF]; exact hc.mono (by omega)⟩
  ·exact k2 z hz
end Vc
end Go.Proofs.YtjmbkipbmbnhjaaGreat

namespace Go.Proofs.YtjmbkipbmbnhjaaGreat
open Go.RowKit
open Go.Lib (hid)
open Dg Zn
namespace Vc
set_option maxRecDepth 100000
theorem aVz {B:Nat}:∀ (L:Nat->Prop) (ρ:aR) (w:World) (v:Value),(SA.v (.slice none 0 0):SA Dm).is L ρ w v->(AV.one (gD [] B)).is L ρ w v:=by
 intro L ρ w v h w' _;obtain rfl:v=_:=h;exact⟨none,0,rfl,⟨Nat.le_refl _,by decide⟩,fun h=>absurd h (Nat.lt_irrefl 0)⟩
theorem aMb {B:Nat} {a b:List Rat} {l:List (List Rat)} (h:lS B a b l):aG b B=true:=by
 cases h with
 | nil=>rfl
 | cons _ _ _ _ h=>exact h
theorem aS7 {B:Nat} {a b:List Rat} {r:List (List Rat)} (h:lS B a b r) (hl:0<b.length):∃ U R r',r=b::r'/\aI a=a/\aG a B=true/\aI b=b/\b≠[]/\aG b B=true/\dV B a b=some (U,R)/\R.length<b.length/\aG R B=true/\lS B b (aT R (-1)) r':=by
 cases h with
 | nil=>exact absurd hl (Nat.lt_irrefl 0)
 | cons w1 w2 w3 w4 w5 w6 w7 w8 w9=>exact⟨_,_,_,rfl,w1,w2,w3,w4,w5,w6,w7,w8,w9⟩
theorem aVl {B:Nat} {a:List Rat} {r:List (List Rat)} (h:lS B a [] r):r=[]:=by
 cases h with
 | nil=>rfl
 | cons w1 w2 w3 w4=>exact absurd rfl w4
theorem aO0 (K B:Nat):aD Tryz.prog 13 [PL [] K] (.one (gD [] B)):=by
 refine aD.of (n:=35) Tryz.func13 rfl rfl rfl rfl rfl fun cx hfr=>?_;refine sr rfl ?_;refine xn ?_;refine RV.done ?_;refine CV.seq ?_;refine sr rfl ?_;refine xm ?_;refine p1 (bH (m:=0) rfl bC) ?_;refine p1 (cQ) ?_;refine RV.done ?_;refine CV.cond rfl (fun hc=>?_) (fun hc=>False.elim (by revert hc; decide));refine sr rfl ?_;refine xn ?_;refine RV.done ?_;refine CV.ret ?_;exact aQ rfl (.inr rfl) rfl aVz
section
variable (p F:List Rat) (l:List (List Rat)) (B:Nat) (hB1:1<=B) (hB:B<=100000) (hp0:p≠[]) (hp:p.length<=1000000) (hF:aD Tryz.prog 43 [PL p B] (.one (PL F B))) (hl:F.length<=1000) (h:lS B F (cJ F) l) (hl2:l.length<=1000)
include hB1 hB hp0 hp hF hl h hl2
theorem aOz:aD Tryz.prog 13 [PL p B] (.one (gD (F::l) B)):=by
 have e11:Rat.divInt (-1) 1 = -1:=by decide
 have hpl:=List.length_pos_iff.2 hp0;have hdl:=uZ F;refine aD.of (n:=35) Tryz.func13 rfl rfl rfl rfl rfl fun cx hfr=>?_;refine sr rfl ?_;refine xn ?_;refine RV.done ?_;refine CV.seq ?_;refine sr rfl ?_;refine xm ?_;refine p1 (bH aV bC) ?_;refine p1 (cQ) ?_;refine RV.done ?_;refine CV.cond rfl (fun hc=>False.elim (by have:=of_decide_eq_true hc; omega)) (fun hc=>?_);refine CV.skip ?_;refine sr rfl ?_;refine xm ?_;refine p1 (cB hF rfl rfl bd Tryz.func43 rfl rfl (xa rfl) rfl hfr rfl) ?_;refine xn ?_;refine RV.done (sr rfl ?_);refine xm ?_;refine p2 (aK6 (r:=200) (k:=none) (xs:=[.tmp 13]) (ss:=dU [F] B) fJ rH rfl rfl rfl sV yF oK rfl rfl bd (xa rfl) rfl rfl) ?_;refine xn ?_;refine RV.done (sr rfl ?_);refine xm ?_;refine xd rfl ((aF3 F B (by omega) (by omega)).mono (fun _ _ _ _ h=>h) (dG (aMb h))) Tryz.func44 (xa rfl) hfr ?_;refine xn ?_;refine RV.done ?_;refine CV.seq ?_;refine CV.block ?_;refine CV.loop (X:={z:List (List Rat) × List Rat × List Rat × List (List Rat) // lS B z.2.1 z.2.2.1 z.2.2.2/\z.1++z.2.2.2=F::l/\z.2.1.length<=1000/\z.2.2.1.length<=1000}) (fun z=>[(.s 4,.av (.one (.sl 200 (dU z.1.1 B).length))),(.b 200,.row 24 none (dU z.1.1 B)),(.s 3,.av (.one (PL z.1.2.1 B))),(.s 5,.av (.one (PL z.1.2.2.1 B)))]) (fun z=>z.1.2.2.2.length) ⟨([F],F,cJ F,l),h,rfl,hl,by show (cJ F).length<=1000; omega⟩ (aZ.mk ⟨aB _,aB _,aB _,aB _,trivial⟩ rfl rfl) (fun z=>?_);obtain⟨⟨d,a,b,r⟩,hr,hd,ha,hb9⟩:=z;simp only at hr hd ha hb9 |-;refine CV.seq ?_;refine sr rfl ?_;refine xm ?_;refine p1 (bH aV bC) ?_;refine p1 (gH) ?_;refine RV.done ?_;refine CV.cond rfl (fun hc=>?_) (fun hc=>?_)
 ·have hlt:0<b.length:=(by have:=of_decide_eq_true hc; omega)
  obtain⟨U,R,r',rfl,q1,q2,q3,q4,q5,q6,q7,q8,q9⟩:=aS7 hr hlt;have hdl2:d.length<=1001:=(by have:=congrArg List.length hd; simp only[List.length_append,List.length_cons] at this; omega)
  have hsl:=mN R (-1);refine CV.skip ?_;refine CV.block ?_;refine sr rfl ?_;refine xm ?_;refine xm ?_;refine p1 (dY (k:=none) (xs:=[.tmp 21]) (ss:=dU [b] B) (G:=Dm.gen (bO none (dU [b] B))) (cG _ _) fJ rH rfl rfl rfl sV oK rfl rfl bd (xa rfl)) ?_;refine fX (aM.plain (iJ (r:=200) (r':=201) (k:=none) (fS (by decide) oK) (by rw[iQ,iQ]; simp; omega) (by rw[iQ,iQ]; simp; omega) fJ aDb rfl rfl rfl yF rfl rfl rfl bd rfl rfl rfl rfl rfl rfl rfl rfl) rfl) ?_;refine xn ?_;refine RV.done (sr rfl ?_);refine xm ?_;refine xm ?_;refine xc (aCi a b B hB1 hB ha hb9 q1 q3 q5 q6) Tryz.func45 (xb rfl rfl) hfr ?_;refine xm ?_;refine p1 (cL) ?_;refine p1 (cL) ?_;refine xn ?_;refine xn ?_;refine RV.done (sr rfl ?_);refine xm ?_;refine xn ?_;refine RV.done ?_;refine CV.region rfl (fun h=>nomatch h) ?_;refine xm ?_;refine xd rfl ((iL (-1) 1 (by decide) (by decide) (by decide) (by decide)).mono (fun _ _ _ _ h=>h) (rW e11)) Tryz.func32 (xb rfl rfl) hfr ?_;refine xd rfl ((aBp R (-1) B 6 (by omega) (by omega) (by omega)).mono (fun _ _ _ _ h=>h) (dG (aMb q9))) Tryz.func46 (xb rfl rfl) hfr ?_;refine xn ?_;refine RV.done ?_;exact⟨⟨(d++[b],b,aT R (-1),r'),q9,by show d++[b]++r'=F::l; rw[List.append_assoc]; exact hd,hb9,by show (aT R (-1)).length<=1000; omega⟩,jI (fun i=>if i=200 then 201 else i) ⟨jV rfl (by rw[sF,List.length_append]),eE sF.symm,eT,eT,trivial⟩ rfl rfl rfl rfl,by show r'.length<(b::r').length; rw[List.length_cons]; omega⟩
 ·refine CV.exit ?_;refine CV.seq ?_;have hb0:b=[]:=List.eq_nil_of_length_eq_zero (by have:=of_decide_eq_false hc; omega);subst hb0;have hr0:=aVl hr;rw[hr0,List.append_nil] at hd;rw[hd];refine iK (r:=200) (t:=4) (G:=Dm.gen (bO none (dU (F::l) B))) (cx.bw hfr) rfl rfl rfl rfl rfl (cG _ _) (gR _ _) ?_;refine CV.region rfl (fun h=>nomatch h) ?_;refine xm ?_;refine xn ?_;refine RV.done ?_;refine CV.ret ?_;exact aQ rfl (.inr rfl) rfl cE
end
theorem aGs (l:List (List Rat)) (J K:Nat) (hl:l.length<=1000000) (hp:∀ p∈l,p.length<=1000000):aD Tryz.prog 14 [gD l J,gD l K] (.one (.v (.bool true))):=by
 refine aD.of (n:=27) Tryz.func14 rfl rfl rfl rfl rfl fun cx hfr=>?_;refine sr rfl ?_;refine xn ?_;refine RV.done ?_;refine CV.seq ?_;refine sr rfl ?_;refine xm ?_;refine p1 (bH iQ fJ) ?_;refine xm ?_;refine p1 (bH iQ fJ) ?_;refine p1 (mX) ?_;refine RV.done ?_;refine CV.cond rfl (fun hc=>False.elim (by simp at hc)) (fun hc=>?_);refine CV.skip ?_;refine CV.seq ?_;refine sr rfl ?_;refine xn ?_;refine RV.done ?_;refine CV.block ?_;refine CV.loop (X:={k:Nat // k<=l.length}) (fun k=>[(.s 5,.av (.one (.v (.int .i64 (k.1:Int))))),(.s 0,.av (.one (gD l J))),(.s 1,.av (.one (gD l K)))]) (fun k=>l.length-k.1) ⟨0,Nat.zero_le _⟩ (aZ.mk ⟨aB _,aB _,aB _,trivial⟩ rfl rfl) (fun k=>?_);obtain⟨k,hk⟩:=k;simp only;refine CV.seq ?_;refine sr rfl ?_;refine xm ?_;refine xm ?_;refine p1 (bH iQ fJ) ?_;refine p1 (cM) ?_;refine RV.done ?_;refine CV.cond rfl (fun hc=>?_) (fun hc=>?_)
 ·have hlt:k<l.length:=(by have:=of_decide_eq_true hc; omega)
  have hmem:l.getD k []∈l:=(by rw[List.getD_eq_getElem?_getD,List.getElem?_eq_getElem hlt]; exact List.getElem_mem _)
  refine CV.skip ?_;refine CV.seq ?_;refine CV.block ?_;refine CV.seq ?_;refine CV.region rfl (fun _=>by kernel_rfl) ?_;refine xm ?_;refine xm ?_;refine p1 (cH (k:=none) (i:=k) (pV hlt) fJ nP) ?_;refine p1 (bL cT) ?_;refine xm ?_;refine xm ?_;refine p1 (cH (k:=none) (i:=k) (pV hlt) fJ nP) ?_;refine p1 (bL cT) ?_;refine xc (aPo (l.getD k []) (l.getD k []) J K (hp _ hmem) (hp _ hmem)) Tryz.func47 (xb rfl rfl) hfr ?_;refine p1 (jX) ?_;refine bQ (by kernel_rfl) ?_;refine CV.cond rfl (fun hc=>False.elim (by simp at hc)) (fun hc=>?_);refine CV.skip ?_;refine CV.region rfl (fun h=>nomatch h) ?_;refine xm ?_;refine p1 (cC (c:=((k+1:Nat):Int)) (by rw[bF (by omega) (by omega)]; omega) rfl rfl bd rfl rfl) ?_;refine xn ?_;refine RV.done ?_;exact⟨⟨k+1,hlt⟩,aZ.mk ⟨aB _,aB _,aB _,trivial⟩ rfl rfl,by show l.length-(k+1)<l.length-k; omega⟩
 ·refine CV.exit ?_;refine sr rfl ?_;refine xn ?_;refine RV.done ?_;refine CV.ret ?_;exact aQ rfl (.inr rfl) rfl cE
end Vc
end Go.Proofs.YtjmbkipbmbnhjaaGreat

namespace Go.Proofs.YtjmbkipbmbnhjaaGreat
open Go.RowKit
open Dg Zn
namespace Vc
def gP (x:Rat) (l:List (List Rat)):List Int:=(l.map fun p=>cX (ev p x)).filter fun s=>decide (s≠0)
theorem aSy (x:Rat) (l:List (List Rat)) (p:List Rat):gP x (l++[p])=gP x l++if cX (ev p x)≠0 then [cX (ev p x)] else []:=by
 unfold gP;rw[List.map_append,List.filter_append];congr 1;by_cases h:cX (ev p x)=0
 ·simp[h]
 ·simp[h]
theorem aSz (x:Rat) (p:List Rat) (l:List (List Rat)):gP x (p::l)=if cX (ev p x)=0 then gP x l else cX (ev p x)::gP x l:=by
 unfold gP;by_cases h:cX (ev p x)=0
 ·simp[h]
 ·simp[h]
theorem aKy (x:Rat) (l:List (List Rat)):(gP x l).length<=l.length:=by
 unfold gP;refine Nat.le_trans (List.length_filter_le _ _) ?_;rw[List.length_map];exact Nat.le_refl _
def iF (L:List Int):Nat->Int
 | 0=>0
 | k+1=>if L.getD (k+1) 0≠L.getD k 0 then iF L k+1 else iF L k
theorem aLx (L:List Int):∀ k,0<=iF L k/\iF L k<=k
 | 0=>⟨Int.le_refl _,Int.le_refl _⟩
 | k+1=>by
  have:=aLx L k;rw[iF];split<;>omega
def aAz (x:Rat) (l:List (List Rat)):Int:=iF (gP x l) ((gP x l).length-1)
def xF:List Int->Int
 | a::b::l=>(if b≠a then 1 else 0)+xF (b::l)
 | _=>0
theorem aIo (a b:Int) (l:List Int):∀ k,iF (a::b::l) (k+1)=(if b≠a then 1 else 0)+iF (b::l) k
 | 0=>by
  show (if (a::b::l).getD 1 0≠(a::b::l).getD 0 0 then iF (a::b::l) 0+1 else iF (a::b::l) 0)=_;show (if b≠a then (0:Int)+1 else 0)=(if b≠a then 1 else 0)+0;split<;>rfl
 | k+1=>by
  have ih:=aIo a b l k;rw[iF,ih,iF];have e1:(a::b::l).getD (k+1+1) 0=(b::l).getD (k+1) 0:=rfl;have e2:(a::b::l).getD (k+1) 0=(b::l).getD k 0:=rfl;rw[e1,e2];split<;>omega
theorem aKc:∀ l:List Int,iF l (l.length-1)=xF l
 | []=>rfl
 | [a]=>rfl
 | a::b::l=>by
  have ih:=aKc (b::l);rw[xF,<- ih];exact aIo a b l l.length
theorem aDk (x:Rat):∀ (l:List (List Rat)) (n b:Int),(-1<=b/\b<=1)->(jP x l (n,b)).1=n+xF (if b=0 then gP x l else b::gP x l)
 | [],n,b,_=>by
  rw[jP];split
  ·show n=n+0;omega
  ·show n=n+0;omega
 | p::l,n,b,hb=>by
  rw[jP,aSz];have hs:=aMa (ev p x);generalize cX (ev p x)=s at hs |-;simp only;by_cases h0:s=0
  ·subst h0;rw[if_neg (by omega),if_neg (by simp),if_pos rfl];exact aDk x l n b hb
  ·rw[if_pos h0,if_neg h0];have ih:=aDk x l (if s*b<0 then n+1 else n) s hs;rw[if_neg h0] at ih;rw[ih];by_cases hb0:b=0
   ·subst hb0;rw[if_pos rfl,if_neg (by omega)]
   ·rw[if_neg hb0,xF];rcases (by omega:s = -1\/s=1) with rfl | rfl<;>rcases (by omega:b = -1\/b=1) with rfl | rfl<;>simp<;>omega
theorem aJ7 (x:Rat) (l:List (List Rat)):bP x l=aAz x l:=by
 unfold bP aAz;rw[aKc,aDk x l 0 0 (by decide),if_pos rfl,Int.zero_add]
end Vc
end Go.Proofs.YtjmbkipbmbnhjaaGreat

namespace Go.Proofs.YtjmbkipbmbnhjaaGreat
open Go.RowKit
open Go.Lib (hid)
open Dg Zn
namespace Vc
set_option maxRecDepth 100000
def fB (p:List Rat):Nat->Rat
 | 0=>0
 | k+1=>if iW (eR (p.getD k 0/aH p)) (fB p k)>0 then eR (p.getD k 0/aH p) else fB p k
def qM (p:List Rat):Rat:=fB p (p.length-1)+1
section
variable (p:List Rat) (B:Nat) (hB:B<=300000) (hp:p.length<=1000000) (hz:∀ k,k<p.length->aG [p.getD k 0/aH p] B=true)
include hB hp hz
theorem aCu:aD Tryz.prog 19 [PL p B] (.one (RT (qM p) (3*(B+6)+20))):=by
 have e11:Rat.divInt 1 1=1:=by decide
 refine aD.of (n:=28) Tryz.func19 rfl rfl rfl rfl rfl fun cx hfr=>?_;refine sr rfl ?_;refine p2 (aU (i:=0) bY) ?_;refine RV.done (sr rfl ?_);refine p2 (aU (i:=1) bY) ?_;refine RV.done ?_;refine CV.seq ?_;refine sr rfl ?_;refine xm ?_;refine xc (pP _ _ hp) Tryz.func51 (xa rfl) hfr ?_;refine xm ?_;refine RV.done ?_;refine CV.block ?_;refine CV.loop (X:={k:Nat // k<=p.length-1}) (fun k=>[(.s 8,.av (.one (.v (.int .i64 (k.1:Int))))),(.s 7,.av (.one (.v (.int .i64 ((p.length:Int)-1))))),(.s 0,.av (.one (PL p B))),(.s 3,.av (.one (.ptr 1 0))),(.b 1,.blk 31 [(some 4,RT (fB p k.1) B)]),(.s 2,.av (.one (.ptr 0 0))),(.b 0,.blk 31 [(some 4,.v dL)])]) (fun k=>p.length-1-k.1) ⟨0,Nat.zero_le _⟩ (aZ.mk ⟨aB _,aB _,aB _,aB _,le_zero,aB _,aB _,trivial⟩ rfl rfl) (fun k=>?_);obtain⟨k,hk⟩:=k;simp only;refine sr rfl ?_;refine p1 (cM) ?_;refine RV.done ?_;refine CV.seq ?_;refine CV.cond rfl (fun hc=>?_) (fun hc=>?_)
 ·have hlt:k+1<p.length:=(by have:=of_decide_eq_true hc; omega)
  have hp0:p≠[]:=List.length_pos_iff.1 (by omega);refine CV.skip ?_;refine CV.seq ?_;refine CV.block ?_;refine sr rfl ?_;refine xm ?_;refine xn ?_;refine RV.done ?_;refine CV.seq ?_;refine CV.region rfl (fun _=>by kernel_rfl) ?_;refine xm ?_;refine xm ?_;refine p1 (cH (k:=some 4) (i:=k) (dZ (by omega)) bC cF rfl rfl bd rfl rfl (by decide)) ?_;refine p1 (bL aC) ?_;refine xm ?_;refine xc (aCe p B hp hp0) Tryz.func54 (xa rfl) hfr ?_;refine xd rfl ((oQ (p.getD k 0) (aH p) B B (by omega) (by omega)).mono (fun _ _ _ _ h=>h) (dR (hz k (by omega)))) Tryz.func53 (xb rfl rfl) hfr ?_;refine xc (aBk _ _) Tryz.func52 (xa rfl) hfr ?_;refine p2 (aU (i:=2) bY) ?_;refine p1 (aP (aC).2) ?_;refine bQ (by kernel_rfl) ?_;refine sr rfl ?_;refine p1 (aJ aC) ?_;refine p1 (aJ aC) ?_;refine xd rfl (aBm (eR (p.getD k 0/aH p)) (fB p k) B B (by omega) (by omega)) Tryz.func55 (xb rfl rfl) hfr ?_;refine p1 (gH) ?_;refine RV.done ?_;refine CV.cond rfl (fun hx=>?_) (fun hx=>?_)
  ·refine CV.region rfl (fun h=>nomatch h) ?_;refine p1 (aJ aC) ?_;refine p1 (aP (aC).2) ?_;refine RV.done ?_;refine CV.region rfl (fun h=>nomatch h) ?_;refine p1 (cC (c:=((k+1:Nat):Int)) (by rw[bF (by omega) (by omega)]; omega) rfl rfl bd rfl rfl) ?_;refine xm ?_;refine RV.done ?_;have e:fB p (k+1)=eR (p.getD k 0/aH p):=(by rw[fB,if_pos (of_decide_eq_true hx)])
   exact⟨⟨k+1,by omega⟩,aZ.mk ⟨aB _,aB _,aB _,aB _,jG (by rw[e]; rfl),aB _,aB _,trivial⟩ rfl rfl,by show p.length-1-(k+1)<p.length-1-k; omega⟩
  ·refine CV.skip ?_;refine CV.region rfl (fun h=>nomatch h) ?_;refine p1 (cC (c:=((k+1:Nat):Int)) (by rw[bF (by omega) (by omega)]; omega) rfl rfl bd rfl rfl) ?_;refine xm ?_;refine RV.done ?_;have e:fB p (k+1)=fB p k:=(by rw[fB,if_neg (of_decide_eq_false hx)])
   exact⟨⟨k+1,by omega⟩,aZ.mk ⟨aB _,aB _,aB _,aB _,jG (by rw[e]; rfl),aB _,aB _,trivial⟩ rfl rfl,by show p.length-1-(k+1)<p.length-1-k; omega⟩
 ·refine CV.exit ?_;refine CV.seq ?_;have hk2:k=p.length-1:=(by have:=of_decide_eq_false hc; omega)
  subst hk2;refine CV.region rfl (fun _=>by kernel_rfl) ?_;refine p1 (aJ aC) ?_;refine xd rfl ((oZ 1 1 (by decide) (by decide) (by decide) (by decide)).mono (fun _ _ _ _ h=>h) (rW e11)) Tryz.func57 (xb rfl rfl) hfr ?_;refine xd rfl (vY (fB p (p.length-1)) 1 B 6 (by omega) (by omega)) Tryz.func56 (xb rfl rfl) hfr ?_;refine p1 (aP (aC).2) ?_;refine bQ (by kernel_rfl) ?_;refine CV.ret ?_;exact aQ rfl (.inr rfl) ⟨_,_,_,_,_,rfl,rfl,rfl,aC⟩ cE
theorem aPr:aD Tryz.prog 20 [PL p B] (.one (RT (qM p) (3*(B+6)+20))):=by
 have e11:Rat.divInt 1 1=1:=by decide
 refine aD.of (n:=38) Tryz.func20 rfl rfl rfl rfl rfl fun cx hfr=>?_;refine sr rfl ?_;refine p2 (aU (i:=0) bY) ?_;refine RV.done (sr rfl ?_);refine p1 (mO) ?_;refine p2 (aU (i:=1) bY) ?_;refine p1 (aP (aC).2) ?_;refine RV.done ?_;refine CV.seq ?_;refine sr rfl ?_;refine xn ?_;refine RV.done ?_;refine CV.block ?_;refine CV.loop (X:={k:Nat // k<=p.length-1}) (fun k=>[(.s 4,.av (.one (.v (.int .i64 (k.1:Int))))),(.s 0,.av (.one (PL p B))),(.s 3,.av (.one (.ptr 1 0))),(.b 1,.blk 31 [(some 4,RT (fB p k.1) B)]),(.s 2,.av (.one (.ptr 0 0))),(.b 0,.blk 31 [(some 4,.v dL)])]) (fun k=>p.length-1-k.1) ⟨0,Nat.zero_le _⟩ (aZ.mk ⟨aB _,aB _,aB _,aLb (fun L ρ w v h=>dT rfl rfl (Nat.zero_le _) L ρ w v h),aB _,aB _,trivial⟩ rfl rfl) (fun k=>?_);obtain⟨k,hk⟩:=k;simp only;refine CV.seq ?_;refine sr rfl ?_;refine xm ?_;refine p1 (cC (c:=((k+1:Nat):Int)) (by rw[bF (by omega) (by omega)]; omega) rfl rfl bd rfl rfl) ?_;refine xm ?_;refine p1 (bH aV bC) ?_;refine p1 (cM) ?_;refine RV.done ?_;refine CV.cond rfl (fun hc=>?_) (fun hc=>?_)
 ·have hlt:k+1<p.length:=(by have:=of_decide_eq_true hc; omega)
  refine CV.skip ?_;refine CV.seq ?_;refine CV.block ?_;refine CV.seq ?_;refine CV.region rfl (fun _=>by kernel_rfl) ?_;refine xm ?_;refine xm ?_;refine p1 (cH (k:=some 4) (i:=k) (dZ (by omega)) bC cF rfl rfl bd rfl rfl (by decide)) ?_;refine p1 (bL aC) ?_;refine xm ?_;refine xm ?_;refine p1 (bH aV bC) ?_;refine p1 (dM (c:=((p.length-1:Nat):Int)) (by rw[bF (by omega) (by omega)]; omega) rfl rfl bd rfl rfl) ?_;refine p1 (cH (k:=some 4) (i:=p.length-1) (dZ (by omega)) bC cF rfl rfl bd rfl rfl (by decide)) ?_;refine p1 (bL aC) ?_;refine xd rfl ((aCh (p.getD k 0) (aH p) B B (by omega) (by omega)).mono (fun _ _ _ _ h=>h) (dR (hz k (by omega)))) Tryz.func58 (xb rfl rfl) hfr ?_;refine p2 (aU (i:=2) bY) ?_;refine p1 (aP (aC).2) ?_;refine bQ (by kernel_rfl) ?_;refine CV.seq ?_;refine sr rfl ?_;refine p1 (aJ aC) ?_;refine xc (aBz _ _) Tryz.func37 (xa rfl) hfr ?_;refine p1 (cM) ?_;refine RV.done ?_;refine CV.cond rfl (fun hs=>?_) (fun hs=>?_)
  ·have ea:eR (p.getD k 0/aH p) = -(p.getD k 0/aH p):=(by have:=zU.1 (of_decide_eq_true hs); rw[eR,if_pos this])
   refine CV.region rfl (fun h=>nomatch h) ?_;refine p1 (aJ aC) ?_;refine xc (aCg _ _) Tryz.func24 (xa rfl) hfr ?_;refine p1 (aP (aC).2) ?_;refine RV.done (sr rfl ?_);refine p1 (aJ aC) ?_;refine p1 (aJ aC) ?_;refine xd rfl (xV _ (fB p k) B B (by omega) (by omega)) Tryz.func23 (xb rfl rfl) hfr ?_;refine p1 (gH) ?_;refine RV.done ?_;refine CV.cond rfl (fun hx=>?_) (fun hx=>?_)
   ·refine CV.region rfl (fun h=>nomatch h) ?_;refine p1 (aJ aC) ?_;refine p1 (aP (aC).2) ?_;refine RV.done ?_;refine CV.region rfl (fun h=>nomatch h) ?_;refine xm ?_;refine p1 (cC (c:=((k+1:Nat):Int)) (by rw[bF (by omega) (by omega)]; omega) rfl rfl bd rfl rfl) ?_;refine xn ?_;refine RV.done ?_;have e:fB p (k+1) = -(p.getD k 0/aH p):=(by rw[fB,ea,if_pos (of_decide_eq_true hx)])
    exact⟨⟨k+1,by omega⟩,aZ.mk ⟨aB _,aB _,aB _,jG (by rw[e]; rfl),aB _,aB _,trivial⟩ rfl rfl,by show p.length-1-(k+1)<p.length-1-k; omega⟩
   ·refine CV.skip ?_;refine CV.region rfl (fun h=>nomatch h) ?_;refine xm ?_;refine p1 (cC (c:=((k+1:Nat):Int)) (by rw[bF (by omega) (by omega)]; omega) rfl rfl bd rfl rfl) ?_;refine xn ?_;refine RV.done ?_;have e:fB p (k+1)=fB p k:=(by rw[fB,ea,if_neg (of_decide_eq_false hx)])
    exact⟨⟨k+1,by omega⟩,aZ.mk ⟨aB _,aB _,aB _,jG (by rw[e]; rfl),aB _,aB _,trivial⟩ rfl rfl,by show p.length-1-(k+1)<p.length-1-k; omega⟩
  ·have ea:eR (p.getD k 0/aH p)=p.getD k 0/aH p:=(by have:=of_decide_eq_false hs; rw[eR,if_neg (fun q=>this (zU.2 q))])
   refine CV.skip ?_;refine sr rfl ?_;refine p1 (aJ aC) ?_;refine p1 (aJ aC) ?_;refine xd rfl (xV _ (fB p k) B B (by omega) (by omega)) Tryz.func23 (xb rfl rfl) hfr ?_;refine p1 (gH) ?_;refine RV.done ?_;refine CV.cond rfl (fun hx=>?_) (fun hx=>?_)
   ·refine CV.region rfl (fun h=>nomatch h) ?_;refine p1 (aJ aC) ?_;refine p1 (aP (aC).2) ?_;refine RV.done ?_;refine CV.region rfl (fun h=>nomatch h) ?_;refine xm ?_;refine p1 (cC (c:=((k+1:Nat):Int)) (by rw[bF (by omega) (by omega)]; omega) rfl rfl bd rfl rfl) ?_;refine xn ?_;refine RV.done ?_;have e:fB p (k+1)=p.getD k 0/aH p:=(by rw[fB,ea,if_pos (of_decide_eq_true hx)])
    exact⟨⟨k+1,by omega⟩,aZ.mk ⟨aB _,aB _,aB _,jG (by rw[e]; rfl),aB _,aB _,trivial⟩ rfl rfl,by show p.length-1-(k+1)<p.length-1-k; omega⟩
   ·refine CV.skip ?_;refine CV.region rfl (fun h=>nomatch h) ?_;refine xm ?_;refine p1 (cC (c:=((k+1:Nat):Int)) (by rw[bF (by omega) (by omega)]; omega) rfl rfl bd rfl rfl) ?_;refine xn ?_;refine RV.done ?_;have e:fB p (k+1)=fB p k:=(by rw[fB,ea,if_neg (of_decide_eq_false hx)])
    exact⟨⟨k+1,by omega⟩,aZ.mk ⟨aB _,aB _,aB _,jG (by rw[e]; rfl),aB _,aB _,trivial⟩ rfl rfl,by show p.length-1-(k+1)<p.length-1-k; omega⟩
 ·refine CV.exit ?_;refine CV.seq ?_;have hk2:k=p.length-1:=(by have:=of_decide_eq_false hc; omega)
  subst hk2;refine CV.region rfl (fun _=>by kernel_rfl) ?_;refine p1 (aJ aC) ?_;refine xd rfl ((iL 1 1 (by decide) (by decide) (by decide) (by decide)).mono (fun _ _ _ _ h=>h) (rW e11)) Tryz.func32 (xb rfl rfl) hfr ?_;refine xd rfl (vJ (fB p (p.length-1)) 1 B 6 (by omega) (by omega)) Tryz.func31 (xb rfl rfl) hfr ?_;refine p1 (aP (aC).2) ?_;refine bQ (by kernel_rfl) ?_;refine CV.ret ?_;exact aQ rfl (.inr rfl) ⟨_,_,_,_,_,rfl,rfl,rfl,aC⟩ cE
end
def aNi (d:Int) (zs:List Int):List Rat:=aI (tab (fun i=>Rat.divInt (zs.getD i 0) d) zs.length)
theorem aVx (d:Int) (zs:List Int) (h1 : -9223372036854775808<=d) (h2:d<=9223372036854775807) (hz:∀ i,-9223372036854775808<=zs.getD i 0/\zs.getD i 0<=9223372036854775807) (hl:zs.length<=1000000):aD Tryz.prog 59 [.v (.int .i64 d),ZI .i64 zs] (.one (PL (aNi d zs) 6)):=by
 refine aD.of (n:=24) Tryz.func59 rfl rfl rfl rfl rfl fun cx hfr=>?_;refine sr rfl ?_;refine xn ?_;refine RV.done (sr rfl ?_);refine xn ?_;refine RV.done ?_;refine CV.seq ?_;refine CV.seq ?_;refine mA 5 100 31 (some 4) rfl rfl rfl rfl ?_;refine CV.region rfl (fun h=>nomatch h) ?_;refine xn ?_;refine RV.done ?_;refine CV.block ?_;refine CV.loop (X:={k:Nat // k<=zs.length}) (fun k=>[(.s 6,.av (.one (.v (.int .i64 (k.1:Int))))),(.s 5,.av (.one (.sl 100 k.1))),(.b 100,.row 31 (some 4) (iE (fun i=>Rat.divInt (zs.getD i 0) d) 6 k.1)),(.s 1,.av (.one (ZI .i64 zs))),(.s 0,.av (.one (.v (.int .i64 d))))]) (fun k=>zs.length-k.1) ⟨0,Nat.zero_le _⟩ (aZ.mk ⟨aB _,aB _,eE rfl,aB _,aB _,trivial⟩ rfl rfl) (fun k=>?_);obtain⟨k,hk⟩:=k;simp only;refine CV.seq ?_;refine sr rfl ?_;refine xm ?_;refine xm ?_;refine p1 (bH (lF _) gU) ?_;refine p1 (cM) ?_;refine RV.done ?_;refine CV.cond rfl (fun hc=>?_) (fun hc=>?_)
 ·have hlt:k<zs.length:=(by have:=of_decide_eq_true hc; omega)
  refine CV.skip ?_;refine CV.seq ?_;refine CV.block ?_;refine CV.region rfl (fun h=>nomatch h) ?_;refine xm ?_;refine xm ?_;refine xm ?_;refine p1 (cH (k:=none) (i:=k) (pA hlt) gU nT) ?_;refine p1 (bL gG) ?_;refine xm ?_;refine xc (iL (zs.getD k 0) d (hz k).1 (hz k).2 h1 h2) Tryz.func32 (xb rfl rfl) hfr ?_;refine p1 (dY (G:=Dm.gen (bO (some 4) [_])) (cG _ _) cA iS rfl rfl rfl (by intro s hs; obtain rfl:=List.mem_singleton.1 hs; rfl) rfl rfl rfl bd (xa rfl)) ?_;refine fX (aM.plain (iJ (r:=100) (r':=101) (fS (by decide) rfl) (by rw[fR]; show (k+1)*64<=_; omega) (by rw[fR]; show k+1<=_; omega) cA fZ rfl rfl rfl (by intro x hx; obtain rfl:=List.mem_singleton.1 hx; rfl) fR.symm rfl rfl bd rfl rfl rfl rfl rfl rfl rfl rfl) rfl) ?_;refine xn ?_;refine RV.done ?_;refine CV.region rfl (fun h=>nomatch h) ?_;refine xm ?_;refine p1 (cC (c:=((k+1:Nat):Int)) (by rw[bF (by omega) (by omega)]; omega) rfl rfl bd rfl rfl) ?_;refine xn ?_;refine RV.done ?_;exact⟨⟨k+1,hlt⟩,jI (fun i=>if i=100 then 101 else i) ⟨eT,jV rfl rfl,eE sT,eT,eT,trivial⟩ rfl rfl rfl rfl,by show zs.length-(k+1)<zs.length-k; omega⟩
 ·refine CV.exit ?_;refine CV.seq ?_;have hk1:k=zs.length:=(by have:=of_decide_eq_false hc; omega)
  subst hk1;rw[pR];refine iK (r:=100) (t:=5) (G:=Dm.gen (bO (some 4) (aW (tab (fun i=>Rat.divInt (zs.getD i 0) d) zs.length) 6))) (cx.bw hfr) rfl rfl (by rw[aV,eW]) rfl rfl (cG _ _) (gR _ _) ?_;refine CV.region rfl (fun h=>nomatch h) ?_;refine xm ?_;refine xd rfl (iI _ _ (by rw[eW]; exact hl)) Tryz.func12 (xa rfl) hfr ?_;refine xn ?_;refine RV.done ?_;refine CV.ret ?_;exact aQ rfl (.inr rfl) rfl cE
theorem mS (z:Int) (h1 : -9223372036854775808<=z) (h2:z<=9223372036854775807):aD Tryz.prog 30 [(.v (.int .i64 z):SA Dm)] (.one (RT (Rat.divInt z 1) 6)):=by
 refine aD.of (n:=5) Tryz.func30 rfl rfl rfl rfl rfl fun cx hfr=>?_;refine sr rfl ?_;refine p2 (aU (i:=0) bY) ?_;refine RV.done (sr rfl ?_);refine xm ?_;refine xd rfl (iL z 1 h1 h2 (by decide) (by decide)) Tryz.func32 (xb rfl rfl) hfr ?_;refine p1 (aP (aC).2) ?_;refine RV.done ?_;refine CV.ret ?_;exact aQ rfl (.inr rfl) ⟨_,_,_,_,_,rfl,rfl,rfl,aC⟩ cE
def prG (a b:Rat) (j k:Nat):qQ where
 is:=fun w v=>∃ (c e:List Value),v=.agg (c++e).toArray/\Dm.at (.rt a.num (qd a) j) w (.agg c.toArray)/\Dm.at (.rt b.num (qd b) k) w (.agg e.toArray)
 shape:=some 8
 plain:=true
 ok:=fun w v ⟨c,e,h,hc,he⟩=>by
  subst h;obtain⟨a,n,c',a',n',c'',rfl,_⟩:=iA hc;obtain⟨b,m,d',b',m',d'',rfl,_⟩:=iA he;exact⟨_,rfl,rfl,by simp[Value.oneCell']⟩
 pl:=fun _ w v ⟨c,e,h,hc,he⟩=>by
  subst h;obtain⟨a,n,c',a',n',c'',rfl,_⟩:=iA hc;obtain⟨b,m,d',b',m',d'',rfl,_⟩:=iA he;simp[Value.cells,cV]
abbrev PR (a b:Rat) (j k:Nat):SA Dm:=.d (Dm.gen (prG a b j k))
theorem aKn:(Tryz.prog.info? 51).map (·.zero)=some (some (.agg #[.bool false,.slice none 0 0,.bool false,.slice none 0 0,.bool false,.slice none 0 0,.bool false,.slice none 0 0])):=by kernel_rfl
theorem aAm:dI Tryz.prog 51 (some 8):=dI.row (by kernel_rfl) (by kernel_rfl)
theorem aUn (parts:List (Nat × Value)):Tryz.prog.built 51 parts=Instr.fill (fun i=>some (i*4,4)) #[.bool false,.slice none 0 0,.bool false,.slice none 0 0,.bool false,.slice none 0 0,.bool false,.slice none 0 0] parts:=by kernel_rfl
section
variable {P:Program} {cx:Cx Dm} {n:Nat} {σ:St Dm} {o:Oper} {d t:Nat}
theorem aGw {x y:Operand} {a b:Rat} {j k:Nat} (ho:o.op=.build 51 #[(0,x),(1,y)]) (hd:o.dst=some d) (hn:d<n) (hx:opd σ x=.av (.one (RT a j))) (hy:opd σ y=.av (.one (RT b k))):aM Tryz.prog cx n σ o (bG x++bG y) [(.s d,.av (.one (PR a b j k)))]:=by
 refine eX hd hn rfl fun σ' ρ a' w h hk=>?_;have h1:=h.opd ((cO fun q hq=>hk q (by simp[hq])).trans hx);have h2:=h.opd ((cO fun q hq=>hk q (by simp[hq])).trans hy);have cells:∀ {z:Operand} {q:Rat} {i:Nat},(RT q i).is (aS cx σ' ρ) ρ w (a'.eval z)->∃ cs:List Value,a'.eval z=.agg cs.toArray:=fun h=>by
  obtain⟨s,t',e,_⟩:=h w (Agree.refl _ _);exact⟨_,e⟩
 obtain⟨cs,hv⟩:=cells h1;obtain⟨es,hv'⟩:=cells h2;have h1':∀ w',Agree (aS cx σ' ρ) w w'->Dm.at (.rt a.num (qd a) j) w' (.agg cs.toArray):=fun w' hag=>by rw[<- hv]; exact h1 w' hag
 have h2':∀ w',Agree (aS cx σ' ρ) w w'->Dm.at (.rt b.num (qd b) k) w' (.agg es.toArray):=fun w' hag=>by rw[<- hv']; exact h2 w' hag
 obtain⟨p1,p2,p3,p4,p5,p6,rfl,_⟩:=iA (h1' w (Agree.refl _ _));obtain⟨q1,q2,q3,q4,q5,q6,rfl,_⟩:=iA (h2' w (Agree.refl _ _));refine⟨.agg #[.bool (decide (a.num<0)),.slice p1 p2 p3,.bool (decide (qd a<0)),.slice p4 p5 p6,.bool (decide (b.num<0)),.slice q1 q2 q3,.bool (decide (qd b<0)),.slice q4 q5 q6],?_,?_⟩
 ·have hb:Tryz.prog.built 51 #[(0,a'.eval x),(1,a'.eval y)].toList=some #[.bool (decide (a.num<0)),.slice p1 p2 p3,.bool (decide (qd a<0)),.slice p4 p5 p6,.bool (decide (b.num<0)),.slice q1 q2 q3,.bool (decide (qd b<0)),.slice q4 q5 q6]:=by
   rw[hv,hv',aUn]
   kernel_rfl
  have hb2:=run_build w 51 #[(0,a'.eval x),(1,a'.eval y)] _ hb;simp only[execOp,ho,Sem.run_bind];rw[show (#[(0,x),(1,y)]:Array (Nat × Operand)).map (fun p=>(p.1,a'.eval p.2))=#[(0,a'.eval x),(1,a'.eval y)] by simp,hb2];rfl
 ·intro w' hag;exact⟨_,_,rfl,h1' w' hag,h2' w' hag⟩
end
section
variable (p:List Rat) (lo hi:Rat) (K Kx:Nat) (hp:p.length<=1000000) (hl:fQ [p] lo K Kx) (hh:fQ [p] hi K Kx)
include hp hl hh
end
def nD (lo hi:Rat):Rat:=(lo+hi)*Rat.divInt 1 2
section
variable (p:List Rat) (L:List (List Rat × Rat)) (lo hi:Rat) (B K:Nat) (hB:B<=300000) (hp:p.length<=1000000) (h:lQ B p=some L) (hL:L.length<=1000000) (hm:aG [nD lo hi] K=true) (p1:fQ [p] lo B K) (p2:fQ [p] hi B K) (p3:fQ [p] (nD lo hi) B K) (h1:fQ (L.map (·.1)) lo B K) (h3:fQ (L.map (·.1)) (nD lo hi) B K)
include hB hp h hL hm p1 p2 p3 h1 h3
end
def aYk (l:List (List Rat)) (x:Rat) (K Kx:Nat):Prop:=aD Tryz.prog 17 [gD l K,RT x Kx] (.one (.v (.int .i64 (aAz x l))))
section
variable {p:List Rat} {c n:Nat}
end
section
variable (zs1 zs2:List Int) (hz1:∀ z∈zs1,-9223372036854775808<=z/\z<=9223372036854775807) (hz2:∀ z∈zs2,-9223372036854775808<=z/\z<=9223372036854775807) (c d:Int) (hc1 : -9223372036854775808<=c) (hc2:c<=9223372036854775807) (hd1 : -9223372036854775808<=d) (hd2:d<=9223372036854775807)
include hz1 hz2 hc1 hc2 hd1 hd2
end
/-! Lists of pairs of polynomials. -/
theorem aIx:dI Tryz.prog 34 none:=dI.one (by kernel_rfl) (by kernel_rfl)
theorem aE9 {x:Rat} {Kx:Nat} (h1:1<=Kx) (hx:aG [x] Kx=true):∀ k,aG [pw x k] (k*Kx+1)=true
 | 0=>by
  show aG [(1:Rat)] _=true;exact lJ (by omega) (show aG [(1:Rat)] 1=true by decide +kernel)
 | k+1=>by
  show aG [pw x k*x] _=true;rw[Nat.succ_mul];exact lJ (by omega) (wJ (by omega) h1 (aE9 h1 hx k) hx)
theorem aL7 {p:List Rat} {x:Rat} {K Kx:Nat} (hK:1<=K) (h1:1<=Kx) (hp:aG p K=true) (hx:aG [x] Kx=true) (n:Nat):∀ k,k<=n->aG [mL p x k] (1+k*(K+(n*Kx+1)+1))=true
 | 0,_=>oS
 | k+1,h=>by
  have h2:=Nat.mul_le_mul_right Kx (show k<=n by omega);show aG [mL p x k+p.getD k 0*pw x k] _=true;rw[Nat.succ_mul];exact lJ (by omega) (aEn (j:=1+k*(K+(n*Kx+1)+1)) (k:=K+(n*Kx+1)) (by omega) (by omega) (aL7 hK h1 hp hx n k (by omega)) (wJ hK (by omega) (tW hp k) (lJ (by omega) (aE9 h1 hx k))))
theorem aXz {p q:List Rat} {c d n m:Nat} (hp:Pk p c n) (hq:Pk q d m) (hc:c<=290) (hd:d<=290) (hn:n<=10) (hm:m<=10):aD Tryz.prog 42 [PL p 10,PL q 10] (.one (PL (cW p q) 3000)):=by
 have h1:=hp.len;have h2:=hq.len;rw[<- aVi];refine aHr p q 10 10 3000 (by decide) (by decide) (hp.sz (by decide) hc) (hq.sz (by decide) hd) (by omega) (by omega) (by decide) (by decide) (by decide) ?_;have:(p.length+1)*(q.length*(10+10+1))<=11*(10*21):=Nat.mul_le_mul (by omega) (Nat.mul_le_mul (by omega) (Nat.le_refl _));omega
section
variable (zs1 zs2:List Int) (hz1:∀ z∈zs1,-9223372036854775808<=z/\z<=9223372036854775807) (hz2:∀ z∈zs2,-9223372036854775808<=z/\z<=9223372036854775807) (c:Int) (hc1 : -9223372036854775808<=c) (hc2:c<=9223372036854775807)
include hz1 hz2 hc1 hc2
end
theorem aTn {u v:List Rat} {c d n m:Nat} (hu:Pk u c n) (hv:Pk v d m) (hn:n<=100) (hc:c+101*(d+1)+d<=2900000):∃ U R,dV 100000 u v=some (U,R)/\aI U=U/\U.length<=101/\R.length<=100/\(v≠[]->aI R=R/\R.length<v.length/\(∀ x,ev u x=ev U x*ev v x+ev R x)/\Cb U (c+101*(d+1)+d)):=by
 have hl:=hu.len;by_cases h0:v=[]
 ·subst h0;exact⟨[],[],by rw[dV,if_pos rfl],rfl,Nat.zero_le _,Nat.zero_le _,fun h=>absurd rfl h⟩
 ·have he:jO u v c d<=c+101*(d+1)+d:=by
   unfold jO;have:=Nat.mul_le_mul_right (d+1) (show u.length+1-v.length<=101 by omega);omega
  obtain⟨U,R,h1,h2,h3,h4,h5,h6,h7,h8⟩:=vN (B:=100000) (by decide) hu.tr hv.tr h0 hu.cb hv.cb (by omega);refine⟨U,R,h1,h2,by omega,?_,fun _=>⟨h3,h4,h6,h7.mono he⟩⟩;by_cases hr:R=[]
  ·rw[hr]; exact Nat.zero_le _
  ·rcases Nat.lt_or_ge u.length v.length with hlt | hge
   ·have hU:U=[]:=List.eq_nil_of_length_eq_zero (by omega);have hR:u=R:=mF hu.tr h3 fun x=>by rw[h6,hU,ev,Rat.zero_mul,Rat.zero_add]
    rw[<- hR];omega
   ·omega
theorem aPz {g:List Rat} (tg:aI g=g) (hl:aH g=1):bA g=g:=mF (cN _) tg fun x=>by
 rw[bA,cP,hl,show (1:Rat)/1=1 by decide +kernel,Rat.mul_one]
theorem aW5 {u g:List Rat} {c n:Nat} (hu:Pk u c n) (hu0:u≠[]) (hn:n<=2^c) (tg:aI g=g) (hl:aH g=1) (h:Dv g u):Pk g (rZ c n) n:=by
 have h1:=aJz hu.tr hu0 hu.cb hu.len hn tg h;rw[aPz tg hl] at h1;exact⟨h1,tg,Nat.le_trans (rV tg hu.tr hu0 h).2.1 hu.len⟩
theorem aP4 {u:List Rat} {c n:Nat} (hu:Pk u c n) (hn:n<=11) (hc:c<=70) (hc2:4<=c):∃ G U R,nE 100000 u (cJ u)=some G/\pD 100000 u (cJ u)=some G/\aI G=G/\G.length<=11/\aG G 100000=true/\dV 100000 u G=some (U,R)/\aI U=U/\U.length<=101/\aG (bA U) 100000=true/\(u≠[]->dW u (cJ u) G/\G≠[]/\aH G=1/\aI R=R/\R.length<G.length/\∀ x,ev u x=ev U x*ev G x+ev R x)/\(u=[]->U=[]):=by
 by_cases h0:u=[]
 ·subst h0;exact⟨[],[],[],aJr (by decide),rfl,rfl,Nat.zero_le _,rfl,by rw[dV,if_pos rfl],rfl,Nat.zero_le _,rfl,fun h=>absurd rfl h,fun _=>rfl⟩
 ·have hd:=hu.derive 4 (by omega);have hpos:=List.length_pos_iff.2 h0;have hQ:sA u (cJ u) c (c+4)<=608:=by
   unfold sA;have:=uZ u;rw[if_pos (by omega)];omega
  have h1:=hu.len;have h2:=hd.len;obtain⟨G,e,g1,g2,g3,g4,_,_,_,_⟩:=aT3 (B:=100000) (M:=11) (Q:=608) (by decide) hu.tr hd.tr (by omega) (by omega) hu.cb hd.cb (by omega) (by omega) hQ (by decide);obtain⟨q1,q2,q3⟩:=g4 (.inl h0);have h16:2^4<=2^c:=eZ hc2;have hG:=aW5 hu h0 (by omega) g3 q2 q3.1;have hk:rZ c n<=1687:=by
   unfold rZ;have:=Nat.mul_le_mul (show n<=11 from hn) (show c+3<=73 by omega);have:=Nat.mul_le_mul (show n<=11 from hn) (show c+4<=74 by omega);omega
  have hG2:=hG.mono hk (Nat.le_refl _);obtain⟨U,R,u1,u2,u3,u4,u5⟩:=aTn hu hG2 (by omega) (by omega);obtain⟨v1,v2,v3,v4⟩:=u5 q1;obtain⟨_,_,m3,_⟩:=vM u2 v4;have hGl:=hG2.len;exact⟨G,U,R,g1,g2,g3,by omega,hG2.sz (by decide) (by decide),u1,u2,u3,m3.sz (by decide) (by omega),fun _=>⟨q3,q1,q2,v1,v2,v3⟩,fun h=>absurd h h0⟩
theorem aT6 {u G U R:List Rat} (h0:aG (cJ u) 100000=true) (h1:nE 100000 u (cJ u)=some G) (h2:dV 100000 u G=some (U,R)) (hG:G.length<=11) (hU:U.length<=101) (hm:aG (bA U) 100000=true):kW 100000 u=some (bA U):=by
 unfold kW;rw[if_pos h0,h1];show (dV 100000 u G).bind _=_;rw[h2];show (if _ then some _ else none)=_;rw[decide_eq_true (show G.length<=1000000 by omega),decide_eq_true (show U.length<=1000000 by omega),hm];rfl
section
variable (zs1 zs2:List Int) (hz1:∀ z∈zs1,-9223372036854775808<=z/\z<=9223372036854775807) (hz2:∀ z∈zs2,-9223372036854775808<=z/\z<=9223372036854775807)
include hz1 hz2
end
end Vc
end Go.Proofs.YtjmbkipbmbnhjaaGreat

namespace Go.Proofs.YtjmbkipbmbnhjaaGreat
open Go.RowKit
open Dg Zn
namespace Vc
section
variable {u v G U R F:List Rat}
variable {c d n m:Nat}
end
end Vc
end Go.Proofs.YtjmbkipbmbnhjaaGreat

namespace Go.Proofs.YtjmbkipbmbnhjaaGreat
open Go.RowKit
open Go.Lib (hid)
open Dg Zn
namespace Vc
theorem aV5 {c n:Nat} (hc:c<=70) (hn:n<=7):rZ c n<=1099:=by
 unfold rZ;have h1:n*(c+3)<=7*73:=Nat.mul_le_mul hn (by omega);have h2:n*(c+4)<=7*74:=Nat.mul_le_mul hn (by omega);omega
theorem aXm {M X B:Nat} {z:List Rat × Rat} (h:Elm M X z) (hB:1<=B) (hX:6*X<=29*B):aG (aT z.1 z.2) B=true:=h.cb.sz hB (by omega)
theorem aR9 {p:List Rat} {c n:Nat} (hp:Pk p c n) (hn:n<=7) (hc:c<=70) (hc2:4<=c) (h0:p≠[]) :
  ∃ F L l,kW 100000 p=some F/\aI F=F/\F≠[]/\aH F=1/\F.length<=7/\Cb F 1099/\lQ 100000 p=some L/\L.length<=7/\(∀ z∈L,Elm 7 378000 z)/\L.map (fun z=>aT z.1 z.2)=F::l/\lS 100000 F (cJ F) l /\
   aD Tryz.prog 15 [PL p 100000] (.one (gD (F::l) 100000))/\aD Tryz.prog 13 [PL p 100000] (.one (gD (F::l) 100000)):=by
 obtain⟨G,U,R,f1,f2,f3,f4,f5,f6,f7,f8,f9,f10,f11⟩:=aP4 hp (by omega) hc hc2;have hdz:aG (cJ p) 100000=true:=(hp.derive 4 (by omega)).sz (by decide) (by omega);have hF:=aT6 hdz f1 f6 f4 f8 f9;obtain⟨hG,G0,gl,tR,hRl,hdiv⟩:=f10 h0;have hr:=aP5 f3 tR hG.1 hdiv hRl;have hpU:∀ x,ev p x=ev U x*ev G x:=fun x=>by rw[hdiv,hr,ev,Rat.add_zero]
 have hU0:U≠[]:=by
  rintro rfl;exact aDs hp.tr h0 (aAd fun x=>by rw[hpU,ev,Rat.zero_mul])
 obtain⟨m1,m2,m3,_⟩:=qU f7 hU0;have hF0:bA U≠[]:=fun e=>by rw[e,List.length_nil] at m2; exact hU0 (List.eq_nil_of_length_eq_zero m2.symm)
 have hdv:Dv U p:=⟨G,fun x=>by rw[hpU,Rat.mul_comm]⟩
 have hlen:=(rV f7 hp.tr h0 hdv).2.1;have hpl:=hp.len;have h7:(7:Nat)<=2^c:=Nat.le_trans (by decide:7<=2^4) (eZ hc2);have hcF:Cb (bA U) 1099:=(aJz hp.tr h0 hp.cb hpl (by omega) f7 hdv).mono (aV5 hc hn);obtain⟨L,e1,e2,e3,l,e4,e5⟩:=aUf (B:=100000) (M:=7) (c:=1099) (X:=378000) (by decide) hF m1 hF0 (by omega) (by decide) hcF (by decide) (by decide) (by decide);have hll:l.length<=1000:=by
  have:=congrArg List.length e4;simp only[List.length_map,List.length_cons] at this;omega
 refine⟨bA U,L,l,hF,m1,hF0,m3,by omega,hcF,e1,e2,e3,e4,e5,?_,?_⟩
 ·have:=aCt p L 100000 (by decide) (by omega) e1 (by omega) (fun z hz=>by have:=(e3 z hz).len; omega) fun z hz=>aXm (e3 z hz) (by decide) (by decide);rwa[e4] at this
 ·exact aOz p (bA U) l 100000 (by decide) (by decide) h0 (by omega) (aPp p G U R 100000 (by decide) (by decide) (by omega) hp.tr hdz f2 f3 (by omega) f5 f6 f7 (by omega) f9) (by omega) e5 hll
def gQ:List Rat:=[2,-3,0,1]
def lP:List (List Rat × Rat):=[([-2,1,1],1),([1,2],1),([1],9/4)]
theorem aEx:lQ 100000 gQ=some lP:=by decide +kernel
theorem aUa:qM gQ=4:=by decide +kernel
theorem aX8:∀ z∈lP,aG (aT z.1 z.2) 100000=true:=by decide +kernel
theorem aEw {x:Rat} (hx:aG [x] 6=true):fQ (lP.map (·.1)) x 100000 6:=by
 refine⟨by decide,by decide,by decide,by decide,hx,fun p hp=>?_⟩;have h:∀ p∈lP.map (·.1),(decide (p.length<=1000000)&&(aG p 100000&&decide (iG 100000 6 p.length<=1000000)))=true:=by decide +kernel
 have:=h p hp;rw[Bool.and_eq_true,Bool.and_eq_true,decide_eq_true_eq,decide_eq_true_eq] at this;exact⟨this.1,this.2.1,this.2.2⟩
theorem aDf (a b:Int) (n:Int) (ha:aG [Rat.divInt a 1] 6=true) (hb:aG [Rat.divInt b 1] 6=true) (hn:kZ (lP.map (·.1)) (Rat.divInt a 1) (Rat.divInt b 1)=n):aD Tryz.prog 25 [PL gQ 100000,RT (Rat.divInt a 1) 6,RT (Rat.divInt b 1) 6] (.one (.v (.int .i64 n))):=by
 rw[<- hn];exact aIr gQ lP (Rat.divInt a 1) (Rat.divInt b 1) 100000 6 (by decide) (by decide) aEx (by decide) (aEw ha) (aEw hb)
theorem aRy:aD Tryz.prog 25 [PL gQ 100000,RT (Rat.divInt (-3) 1) 6,RT (Rat.divInt 3 1) 6] (.one (.v (.int .i64 2))):=aDf (-3) 3 2 (by decide +kernel) (by decide +kernel) (by decide +kernel)
theorem aRx:aD Tryz.prog 25 [PL gQ 100000,RT (Rat.divInt (-2) 1) 6,RT (Rat.divInt 1 1) 6] (.one (.v (.int .i64 1))):=aDf (-2) 1 1 (by decide +kernel) (by decide +kernel) (by decide +kernel)
theorem aRw:aD Tryz.prog 25 [PL gQ 100000,RT (Rat.divInt 1 1) 6,RT (Rat.divInt 5 1) 6] (.one (.v (.int .i64 0))):=aDf 1 5 0 (by decide +kernel) (by decide +kernel) (by decide +kernel)
theorem aT9:aD Tryz.prog 15 [PL gQ 100000] (.one (gD [[-2,1,1],[1,2],[9/4]] 100000)):=by
 have h:=aCt gQ lP 100000 (by decide) (by decide) aEx (by decide) (fun z hz=>(show ∀ z∈lP,z.1.length<=1000000 by decide +kernel) z hz) aX8;have e:lP.map (fun e=>aT e.1 e.2)=[[-2,1,1],[1,2],[9/4]]:=by decide +kernel
 rwa[e] at h
set_option maxRecDepth 100000
def pB (p q:List Rat) (l:List (List Rat)) (lo hi:Rat):Bool :=
 if p.length=0 then true else if iW lo hi>0 then true else if iW lo hi=0 then decide (cX (ev p lo) >= 0)
 else if (if cX (ev q hi)=0 then kZ l lo hi-1 else kZ l lo hi)=0 then decide (cX (ev q (nD lo hi))>0) else false
section
variable (p q:List Rat) (L:List (List Rat × Rat)) (lo hi:Rat) (B K:Nat) (hB:B<=300000) (hp:p.length<=1000000) (hq:q.length<=1000000) (hodd:aD Tryz.prog 88 [PL p B] (.one (PL q B))) (h:lQ B q=some L) (hL:L.length<=1000000) (hm:aG [nD lo hi] K=true) (p1:fQ [p] lo B K) (q2:fQ [q] hi B K) (q3:fQ [q] (nD lo hi) B K) (l1:fQ (L.map (·.1)) lo B K) (l2:fQ (L.map (·.1)) hi B K)
include hB hp hq hodd h hL hm p1 q2 q3 l1 l2
theorem aSd:aD Tryz.prog 39 [PL p B,RT lo K,RT hi K] (.one (.v (.bool (pB p q (L.map (·.1)) lo hi)))):=by
 obtain⟨hBm,hK,hB1,hK1,sl,pall⟩:=p1;obtain⟨_,_,_,_,sh,qall⟩:=q2;obtain⟨_,_,_,_,sm,_⟩:=q3;obtain⟨_,pz,pb⟩:=pall p List.mem_cons_self;obtain⟨_,qz,qb⟩:=qall q List.mem_cons_self;have b1:=mV lo (L.map (·.1));have b2:=mV hi (L.map (·.1));have bl:(L.map (·.1)).length=L.length:=List.length_map _;have bc : -1000000<=kZ (L.map (·.1)) lo hi/\kZ (L.map (·.1)) lo hi<=1000000:=by unfold kZ; split<;>omega
 refine aD.of (n:=50) Tryz.func39 rfl rfl rfl rfl rfl fun cx hfr=>?_;refine sr rfl ?_;refine p2 (bZ (i:=0)) ?_;refine p2 (bZ (i:=1)) ?_;refine xn ?_;refine RV.done (sr rfl ?_);refine p1 (aJ aC) ?_;refine p1 (aJ aC) ?_;refine xd rfl (aBm lo hi K K (by omega) (by omega)) Tryz.func55 (xb rfl rfl) hfr ?_;refine xn ?_;refine RV.done ?_;refine CV.seq ?_;refine CV.block ?_;refine sr rfl ?_;refine xm ?_;refine p1 (bH aV bC) ?_;refine p1 (cQ) ?_;refine xm ?_;refine RV.bool (fun c1=>?_) (fun c1=>?_)
 ·refine xk ?_;refine xk ?_;refine p1 (dA) ?_;refine xn ?_;refine RV.done ?_;refine CV.yes rfl ?_;refine sr rfl ?_;refine xn ?_;refine RV.done ?_;refine CV.ret ?_;have e1:p.length=0:=(by simpa using c1)
  exact aQ rfl (.inr rfl) rfl (fY (by rw[pB,if_pos e1]))
 ·refine y1 (bX (.inl rfl)) ?_;refine y1 (gH) ?_;refine p1 (dQ) ?_;refine xn ?_;refine RV.done ?_;refine CV.cond rfl (fun c2=>?_) (fun c2=>?_)
  ·refine sr rfl ?_;refine xn ?_;refine RV.done ?_;refine CV.ret ?_;have e1:¬ p.length=0:=(by simpa using c1)
   have e2:=of_decide_eq_true c2;exact aQ rfl (.inr rfl) rfl (fY (by rw[pB,if_neg e1,if_pos e2]))
  ·refine sr rfl ?_;refine xm ?_;refine p1 (cQ) ?_;refine xn ?_;refine RV.done ?_;refine CV.cond rfl (fun c3=>?_) (fun c3=>?_)
   ·refine sr rfl ?_;refine xm ?_;refine p1 (aJ aC) ?_;refine xc (vR p lo B K hp hBm hK hB1 hK1 pz sl pb) Tryz.func49 (xb rfl rfl) hfr ?_;refine p1 (rT) ?_;refine xn ?_;refine RV.done ?_;refine CV.ret ?_;have e1:¬ p.length=0:=(by simpa using c1)
    have e2:=of_decide_eq_false c2;have e3:iW lo hi=0:=(by simpa using c3)
    exact aQ rfl (.inr rfl) rfl (fY (by rw[pB,if_neg e1,if_neg e2,if_pos e3]))
   ·refine CV.skip ?_;refine sr rfl ?_;refine xm ?_;refine p1 (cB hodd rfl rfl bd Tryz.func88 rfl rfl (xa rfl) rfl hfr rfl) ?_;refine xn ?_;refine RV.done (sr rfl ?_);refine xm ?_;refine p1 (aJ aC) ?_;refine p1 (aJ aC) ?_;refine xc (aIr q L lo hi B K hB hq h hL l1 l2) Tryz.func25 (.cons rfl cS.any (xb rfl rfl)) hfr ?_;refine xn ?_;refine RV.done ?_;refine CV.seq ?_;refine sr rfl ?_;refine xm ?_;refine p1 (aJ aC) ?_;refine xc (vR q hi B K hq hBm hK hB1 hK1 qz sh qb) Tryz.func49 (xb rfl rfl) hfr ?_;refine p1 (cQ) ?_;refine RV.done ?_;refine CV.cond rfl (fun c4=>?_) (fun c4=>?_)
    ·refine CV.region rfl (fun h=>nomatch h) ?_;refine xm ?_;refine p1 (dM (c:=kZ (L.map (·.1)) lo hi-1) (bF (by omega) (by omega)) rfl rfl bd rfl rfl) ?_;refine xn ?_;refine RV.done (sr rfl ?_);refine xm ?_;refine p1 (cQ) ?_;refine xm ?_;refine RV.bool (fun c5=>?_) (fun c5=>?_)
     ·refine y1 (bX (.inl rfl)) ?_;refine y1 (aJ aC) ?_;refine y1 (aJ aC) ?_;refine y1 (cB ((aB3 lo hi K K (by omega) (by omega)).mono (fun _ _ _ _ h=>h) (dR hm)) rfl rfl bd Tryz.func69 rfl rfl (xb rfl rfl) rfl hfr rfl) ?_;refine y1 (cB (vR q (nD lo hi) B K hq hBm hK hB1 hK1 qz sm qb) rfl rfl bd Tryz.func49 rfl rfl (xb rfl rfl) rfl hfr rfl) ?_;refine y1 (gH) ?_;refine p1 (dA) ?_;refine xn ?_;refine RV.done ?_;refine CV.ret ?_;have e1:¬ p.length=0:=(by simpa using c1)
      have e2:=of_decide_eq_false c2;have e3:¬ iW lo hi=0:=(by simpa using c3)
      have e4:cX (ev q hi)=0:=(by simpa using c4)
      have e5:kZ (L.map (·.1)) lo hi-1=0:=(by simpa using c5)
      exact aQ rfl (.inr rfl) rfl (fY (by rw[pB,if_neg e1,if_neg e2,if_neg e3,if_pos e4,if_pos e5]))
     ·refine xk ?_;refine xk ?_;refine xk ?_;refine xk ?_;refine xk ?_;refine xk ?_;refine p1 (dQ) ?_;refine xn ?_;refine RV.done ?_;refine CV.ret ?_;have e1:¬ p.length=0:=(by simpa using c1)
      have e2:=of_decide_eq_false c2;have e3:¬ iW lo hi=0:=(by simpa using c3)
      have e4:cX (ev q hi)=0:=(by simpa using c4)
      have e5:¬ kZ (L.map (·.1)) lo hi-1=0:=(by simpa using c5)
      exact aQ rfl (.inr rfl) rfl (fY (by rw[pB,if_neg e1,if_neg e2,if_neg e3,if_pos e4,if_neg e5]))
    ·refine CV.skip ?_;refine sr rfl ?_;refine xm ?_;refine p1 (cQ) ?_;refine xm ?_;refine RV.bool (fun c5=>?_) (fun c5=>?_)
     ·refine y1 (bX (.inl rfl)) ?_;refine y1 (aJ aC) ?_;refine y1 (aJ aC) ?_;refine y1 (cB ((aB3 lo hi K K (by omega) (by omega)).mono (fun _ _ _ _ h=>h) (dR hm)) rfl rfl bd Tryz.func69 rfl rfl (xb rfl rfl) rfl hfr rfl) ?_;refine y1 (cB (vR q (nD lo hi) B K hq hBm hK hB1 hK1 qz sm qb) rfl rfl bd Tryz.func49 rfl rfl (xb rfl rfl) rfl hfr rfl) ?_;refine y1 (gH) ?_;refine p1 (dA) ?_;refine xn ?_;refine RV.done ?_;refine CV.ret ?_;have e1:¬ p.length=0:=(by simpa using c1)
      have e2:=of_decide_eq_false c2;have e3:¬ iW lo hi=0:=(by simpa using c3)
      have e4:¬ cX (ev q hi)=0:=(by simpa using c4)
      have e5:kZ (L.map (·.1)) lo hi=0:=(by simpa using c5)
      exact aQ rfl (.inr rfl) rfl (fY (by rw[pB,if_neg e1,if_neg e2,if_neg e3,if_neg e4,if_pos e5]))
     ·refine xk ?_;refine xk ?_;refine xk ?_;refine xk ?_;refine xk ?_;refine xk ?_;refine p1 (dQ) ?_;refine xn ?_;refine RV.done ?_;refine CV.ret ?_;have e1:¬ p.length=0:=(by simpa using c1)
      have e2:=of_decide_eq_false c2;have e3:¬ iW lo hi=0:=(by simpa using c3)
      have e4:¬ cX (ev q hi)=0:=(by simpa using c4)
      have e5:¬ kZ (L.map (·.1)) lo hi=0:=(by simpa using c5)
      exact aQ rfl (.inr rfl) rfl (fY (by rw[pB,if_neg e1,if_neg e2,if_neg e3,if_neg e4,if_neg e5]))
end
theorem aCr {f:Nat->Nat} {x:AV Dm} (h:(x.ptrs.all fun b=>Nat.beq (f b) b)=true):(XV.av x).leR f (.av x):=fun _ _ _ _ hv=>hv.go (Goes.refl _ _) fun b hb=>by rw[Nat.eq_of_beq_eq_true (List.all_eq_true.1 h b hb)]
abbrev ptB (q:List Rat) (B:Nat):Sg Dm:=[(.b 500,.blk 24 [(none,PL q B)])]
theorem aJc (q F Q R:List Rat) (B:Nat) (hB:B<=300000) (hq:q.length<=1000000) (h1:kW B q=some F) (hF:F.length<=1000000) (h2:dV B q F=some (Q,R)):xK Tryz.prog 133 [(.ptr 500 0:SA Dm)] (ptB q B) (.one (PL F B)) (ptB Q B) []:=by
 refine xK.of (n:=12) (by exact List.cons_ne_nil _ _) Tryz.func133 rfl rfl rfl rfl rfl rfl rfl rfl fun cx ρ0 hNI hW hBw=>?_;refine sr rfl ?_;refine xn ?_;refine RV.done (sr rfl ?_);refine p1 (aJ cT) ?_;refine p1 (aJf (hne:=List.cons_ne_nil _ _) hNI hW hBw rfl rfl (aCs q F B hB hq h1) rfl rfl bd Tryz.func94 rfl rfl (xa rfl) rfl rfl) ?_;refine xn ?_;refine RV.done (sr rfl ?_);refine p1 (aJ cT) ?_;refine xm ?_;refine p1 (aJf (hne:=List.cons_ne_nil _ _) hNI hW hBw rfl rfl (zC q F B hB hq hF h2) rfl rfl bd Tryz.func134 rfl rfl (xb rfl rfl) rfl rfl) ?_;refine xm ?_;refine p1 (cL) ?_;refine p1 (cL) ?_;refine p1 (aP (cT).2) ?_;refine RV.done (sr rfl ?_);refine xm ?_;refine xn ?_;refine RV.done ?_;refine CV.ret ?_;exact aX6 rfl (.inr rfl) rfl ⟨rfl,trivial⟩ (fun _=>rfl) rfl cE
def uK (p q:List Rat):Bool:=decide (0<q.length)&&(decide (p.length<=1000)&&(decide (q.length<=1000)&&(decide (min p.length q.length<=7)&&(aG p 400&&(aG q 400&&aG (tab (nC p q) (p.length+q.length-1)) 400)))))
theorem aJl {p q:List Rat} (B:Nat) (h:uK p q=true) (hz:aG (cW p q) B=true):aD Tryz.prog 33 [PL p B,PL q B] (.one (PL (cW p q) B)):=by
 simp only[uK,Bool.and_eq_true,decide_eq_true_eq] at h;obtain⟨h1,h2,h3,h4,h5,h6,h7⟩:=h;exact(aUx p q 400 7 400 h1 (by omega) (by omega) (by decide) h4 (by decide) h7).mono (fun L ρ w vs hv=>match vs,hv with
  | [_,_],⟨a,b,c⟩=>⟨dG h5 L ρ w _ a,dG h6 L ρ w _ b,c⟩) (dG hz)
def oB (B:Nat):Nat->List Rat->List Rat->Option (List Rat)
 | 0,_,_=>none
 | n+1,q,o=>if q.length<=1 then (if uK o q&&aG (cW o q) B then some (cW o q) else none) else
  (kW B q).bind fun F=>(dV B q F).bind fun x=>(kW B x.1).bind fun G=>(dV B x.1 G).bind fun y=>(dV B F G).bind fun z =>
   if decide (F.length<=1000000)&&(decide (x.1.length<=1000000)&&(decide (G.length<=1000000)&&(decide (y.1.length<=1000000)&&(uK o z.1&&aG (cW o z.1) B)))) then oB B n y.1 (cW o z.1) else none
theorem aTt {B n:Nat} {q o r:List Rat} (h:oB B (n+1) q o=some r) (hq:q.length<=1):uK o q=true/\aG (cW o q) B=true/\r=cW o q:=by
 rw[oB,if_pos hq] at h;split at h
 ·rename_i hc;rw[Bool.and_eq_true] at hc;exact⟨hc.1,hc.2,(Option.some.inj h).symm⟩
 ·cases h
theorem aRj {B n:Nat} {q o r:List Rat} (h:oB B (n+1) q o=some r) (hq:¬ q.length<=1):∃ F Q R G Y R' Z R'',kW B q=some F/\dV B q F=some (Q,R)/\kW B Q=some G/\dV B Q G=some (Y,R')/\dV B F G=some (Z,R'')/\F.length<=1000000/\Q.length<=1000000/\G.length<=1000000/\Y.length<=1000000/\uK o Z=true/\aG (cW o Z) B=true/\oB B n Y (cW o Z)=some r:=by
 rw[oB,if_neg hq] at h;obtain⟨F,h1,h⟩:=Option.bind_eq_some_iff.1 h;obtain⟨⟨Q,R⟩,h2,h⟩:=Option.bind_eq_some_iff.1 h;obtain⟨G,h3,h⟩:=Option.bind_eq_some_iff.1 h;obtain⟨⟨Y,R'⟩,h4,h⟩:=Option.bind_eq_some_iff.1 h;obtain⟨⟨Z,R''⟩,h5,h⟩:=Option.bind_eq_some_iff.1 h;split at h
 ·rename_i hc;simp only[Bool.and_eq_true,decide_eq_true_eq] at hc;exact⟨F,Q,R,G,Y,R',Z,R'',h1,h2,h3,h4,h5,hc.1,hc.2.1,hc.2.2.1,hc.2.2.2.1,hc.2.2.2.2.1,hc.2.2.2.2.2,h⟩
 ·cases h
theorem aTs {B n:Nat} {q o r:List Rat} (h:oB B n q o=some r):∃ m,n=m+1:=by
 cases n with
 | zero=>cases h
 | succ m=>exact⟨m,rfl⟩
theorem aVy (p r:List Rat) (B n:Nat) (hB:B<=300000) (hB6:6<=B) (hp:p.length<=1000000) (h:oB B n p [1]=some r):aD Tryz.prog 88 [PL p B] (.one (PL r B)):=by
 refine aD.of (n:=33) Tryz.func88 rfl rfl rfl rfl rfl fun cx hfr=>?_;refine sr rfl ?_;refine xn ?_;refine RV.done (sr rfl ?_);refine xm ?_;refine p2 (aU (i:=500) aCc) ?_;refine p1 (aP (cT).2) ?_;refine RV.done (sr rfl ?_);refine p1 (aTq (hne:=List.cons_ne_nil _ _) (ss:=[(.ptr 500 0:SA Dm)]) rfl rfl bd ⟨rfl,trivial⟩) ?_;refine xn ?_;refine RV.done (sr rfl ?_);refine xd rfl (oZ 1 1 (by decide) (by decide) (by decide) (by decide)) Tryz.func57 (xb rfl rfl) hfr ?_;refine p1 (dY (k:=some 4) (G:=Dm.gen (bO (some 4) (aW [Rat.divInt 1 1] 6))) (cG _ _) bC iS rfl rfl rfl (by intro s hs; obtain rfl:=List.mem_singleton.1 hs; rfl) rfl rfl rfl bd (xa rfl)) ?_;refine xn ?_;refine RV.done ?_;refine CV.seq ?_;refine CV.block ?_;have h1:aG [(1:Rat)] 6=true:=(by decide +kernel)
 have e1:Rat.divInt 1 1=(1:Rat):=(by decide +kernel)
 rw[e1];refine CV.loop (X:={z:Nat × List Rat × List Rat // oB B z.1 z.2.1 z.2.2=some r/\z.2.1.length<=1000000}) (fun z=>[(.s 3,.av (.one (.ptr 500 0))),(.b 500,.blk 24 [(none,PL z.1.2.1 B)]),(.s 4,.av (.one (.lk (fnR 133 [(.ptr 500 0:SA Dm)])))),(.s 5,.av (.one (PL z.1.2.2 B)))]) (fun z=>z.1.1) ⟨(n,p,[1]),h,hp⟩ (aZ.mk ⟨aB _,aB _,aB _,zA rfl (dG (K:=6) (lJ hB6 h1)),trivial⟩ rfl rfl) (fun z=>?_);obtain⟨⟨n,q,o⟩,hz,hql⟩:=z;simp only at hz hql |-;obtain⟨m,rfl⟩:=aTs hz;refine CV.seq ?_;refine sr rfl ?_;refine p1 (aJ cT) ?_;refine xc (pP q B hql) Tryz.func51 (xa rfl) hfr ?_;refine p1 (gH) ?_;refine RV.done ?_;refine CV.cond rfl (fun hc=>?_) (fun hc=>?_)
 ·have hq1:¬ q.length<=1:=(by have:=of_decide_eq_true hc; omega)
  obtain⟨F,Q,R,G,Y,R1,Z,R2,a1,a2,a3,a4,a5,l1,l2,l3,l4,m1,m2,hz2⟩:=aRj hz hq1;refine CV.skip ?_;refine CV.block ?_;refine sr rfl ?_;refine xm ?_;refine p2 (aH1 (nw:=[]) (sas:=[]) (caps:=[(.ptr 500 0:SA Dm)]) (aJc q F Q R B hB hql a1 l1 a2) hfr rfl (cx.wf hfr) Tryz.func133 rfl rfl rfl rfl bd rfl trivial ⟨rfl,trivial⟩ trivial rfl rfl rfl rfl) ?_;refine xm ?_;refine p2 (aH1 (nw:=[]) (sas:=[]) (caps:=[(.ptr 500 0:SA Dm)]) (aJc Q G Y R1 B hB l2 a3 l3 a4) hfr rfl (cx.wf hfr) Tryz.func133 rfl rfl rfl rfl bd rfl trivial ⟨rfl,trivial⟩ trivial rfl rfl rfl rfl) ?_;refine xn ?_;refine xn ?_;refine RV.done (sr rfl ?_);refine xm ?_;refine xm ?_;refine xc (zC F G B hB l1 l3 a5) Tryz.func134 (xb rfl rfl) hfr ?_;refine xm ?_;refine p1 (cL) ?_;refine p1 (cL) ?_;refine xn ?_;refine xn ?_;refine RV.done ?_;refine CV.region rfl (fun h=>nomatch h) ?_;refine xm ?_;refine xm ?_;refine xc (aJl B m1 m2) Tryz.func33 (xb rfl rfl) hfr ?_;refine xn ?_;refine RV.done ?_;exact⟨⟨(m,Y,cW o Z),hz2,l4⟩,aZ.mk ⟨aB _,aB _,aB _,aB _,trivial⟩ rfl rfl,by show m<m+1; omega⟩
 ·refine CV.exit ?_;refine CV.seq ?_;have hq1:q.length<=1:=(by have:=of_decide_eq_false hc; omega)
  obtain⟨m1,m2,hr⟩:=aTt hz hq1;rw[hr];refine CV.region rfl (fun h=>nomatch h) ?_;refine xm ?_;refine p1 (aJ cT) ?_;refine xc (aJl B m1 m2) Tryz.func33 (xb rfl rfl) hfr ?_;refine xn ?_;refine RV.done ?_;refine CV.ret ?_;exact aQ rfl (.inr rfl) rfl cE
theorem aXk:oB 100000 6 gQ [1]=some [2,1]:=by decide +kernel
theorem aSx {x:Rat} {l:List (List Rat)} {k:Nat} (h:k<l.length):gP x (l.take (k+1))=gP x (l.take k)++if cX (ev (l.getD k []) x)≠0 then [cX (ev (l.getD k []) x)] else []:=by
 have e:l.take (k+1)=l.take k++[l.getD k []]:=by
  rw[List.take_add_one,List.getElem?_eq_getElem h,List.getD_eq_getElem?_getD,List.getElem?_eq_getElem h];rfl
 rw[e,aSy]
theorem aOc (x:Rat) (l:List (List Rat)) (k:Nat):(gP x (l.take k)).length<=l.length:=by
 have:=aKy x (l.take k);rw[List.length_take] at this;omega
theorem aF5 (l:List (List Rat)) (x:Rat) (K Kx B:Nat) (hl:l.length<=1000000) (hE:∀ p∈l,aD Tryz.prog 40 [PL p K,RT x Kx] (.one (RT (ev p x) B))):aYk l x K Kx:=by
 refine aD.of (n:=48) Tryz.func17 rfl rfl rfl rfl rfl fun cx hfr=>?_;refine sr rfl ?_;refine p1 (kU) ?_;refine xn ?_;refine RV.done (sr rfl ?_);refine xn ?_;refine RV.done ?_;refine CV.seq ?_;refine CV.seq ?_;refine mA 5 100 3 none rfl rfl rfl rfl ?_;refine CV.kp [100] rfl rfl ?_;refine CV.region rfl (fun h=>nomatch h) ?_;refine xn ?_;refine RV.done ?_;refine CV.block ?_;refine CV.loop (X:={k:Nat // k<=l.length}) (fun k=>[(.s 6,.av (.one (.v (.int .i64 (k.1:Int))))),(.s 0,.av (.one (gD l K))),(.s 5,.av (.one (.sl 100 (gP x (l.take k.1)).length))),(.b 100,.row 3 none (fO .i64 (gP x (l.take k.1)))),(KP,.np [100]),(.s 3,.av (.one (.d (Dm.gen (pG (some 4) (RT x Kx))))))]) (fun k=>l.length-k.1) ⟨0,Nat.zero_le _⟩ (aZ.mk ⟨aB _,aB _,aB _,aB _,trivial,aB _,trivial⟩ rfl rfl) (fun k=>?_);obtain⟨k,hk⟩:=k;simp only;refine CV.seq ?_;refine sr rfl ?_;refine xm ?_;refine xm ?_;refine p1 (bH iQ fJ) ?_;refine p1 (cM) ?_;refine RV.done ?_;refine CV.cond rfl (fun hc=>?_) (fun hc=>?_)
 ·have hlt:k<l.length:=(by have:=of_decide_eq_true hc; omega)
  have hmem:l.getD k []∈l:=(by rw[List.getD_eq_getElem?_getD,List.getElem?_eq_getElem hlt]; exact List.getElem_mem _)
  have hst:=aSx (x:=x) hlt;have hln:=aOc x l k;refine CV.skip ?_;refine CV.seq ?_;refine CV.block ?_;refine CV.seq ?_;refine aSm [16,17,18,19,20,21,22,7] rfl hfr rfl (fun _=>by kernel_rfl) fun cx' hfr'=>?_;refine xm ?_;refine xm ?_;refine p1 (cH (k:=none) (i:=k) (pV hlt) fJ nP) ?_;refine p1 (bL cT) ?_;refine p1 (bL aC) ?_;refine p1 (cB (hE _ hmem) rfl rfl bd Tryz.func40 rfl rfl (xb rfl rfl) rfl hfr' rfl) ?_;refine p1 (cB (show aD Tryz.prog _ _ (.one (.v (.int .i64 (cX (ev (l.getD k []) x))))) from aBz _ _) rfl rfl bd Tryz.func37 rfl rfl (xa rfl) rfl hfr' rfl) ?_;refine xn ?_;refine bQ (by kernel_rfl) ?_;refine sr rfl ?_;refine xm ?_;refine p1 (mX) ?_;refine RV.done ?_;refine CV.cond rfl (fun hs=>?_) (fun hs=>?_)
  ·refine CV.region rfl (fun h=>nomatch h) ?_;refine xm ?_;refine xm ?_;refine p1 (dY (G:=Dm.gen (bO none [_])) (cG none _) gU wI rfl rfl rfl (by intro s hs; obtain rfl:=List.mem_singleton.1 hs; rfl) rfl rfl rfl bd (xa rfl)) ?_;refine aKi (aM.plain (aGx (r:=100) (r':=101) (k:=none) (fS (by decide) rfl) (by rw[lF]; simp; omega) (by rw[lF]; simp; omega) gU aV6 rfl rfl (lF _).symm rfl rfl bd rfl rfl rfl rfl rfl rfl rfl) rfl) ?_;refine xn ?_;refine RV.done ?_;refine CV.region rfl (fun h=>nomatch h) ?_;refine xm ?_;refine p1 (cC (c:=((k+1:Nat):Int)) (by rw[bF (by omega) (by omega)]; omega) rfl rfl bd rfl rfl) ?_;refine xn ?_;refine RV.done ?_;have h2:cX (ev (l.getD k []) x)≠0:=(by simpa using hs)
   rw[if_pos h2] at hst;exact⟨⟨k+1,hlt⟩,jI (fun i=>if i=100 then 101 else i) ⟨eT,eT,jV rfl (by rw[hst,List.length_append]; rfl),eE (by rw[hst,<- aPc]; rfl),trivial,eT,trivial⟩ rfl rfl rfl rfl,by show l.length-(k+1)<l.length-k; omega⟩
  ·refine CV.skip ?_;refine CV.region rfl (fun h=>nomatch h) ?_;refine xm ?_;refine p1 (cC (c:=((k+1:Nat):Int)) (by rw[bF (by omega) (by omega)]; omega) rfl rfl bd rfl rfl) ?_;refine xn ?_;refine RV.done ?_;have h2:¬ cX (ev (l.getD k []) x)≠0:=(by simpa using hs)
   rw[if_neg h2,List.append_nil] at hst;exact⟨⟨k+1,hlt⟩,aZ.mk ⟨aB _,aB _,jV rfl (by rw[hst]),eE (by rw[hst]),trivial,aB _,trivial⟩ rfl rfl,by show l.length-(k+1)<l.length-k; omega⟩
 ·refine CV.exit ?_;refine CV.seq ?_;have hk2:k=l.length:=(by have:=of_decide_eq_false hc; omega)
  subst hk2;rw[List.take_length];have hSl:=aKy x l;have hlast:aAz x l=iF (gP x l) ((gP x l).length-1):=rfl;generalize hgS:gP x l=S at hSl hlast |-;refine iK (r:=100) (t:=5) (G:=Dm.gen (bO none (fO .i64 S))) (cx.bw hfr) rfl rfl (lF _).symm rfl rfl (cG _ _) (gR _ _) ?_;refine CV.kp [] rfl rfl ?_;refine CV.region rfl (fun h=>nomatch h) ?_;refine xn ?_;refine RV.done ?_;refine CV.seq ?_;refine sr rfl ?_;refine xn ?_;refine RV.done ?_;refine CV.block ?_;refine CV.loop (X:={k:Nat // k<=S.length-1}) (fun k=>[(.s 8,.av (.one (.v (.int .i64 (iF S k.1))))),(.s 9,.av (.one (.v (.int .i64 ((k.1+1:Nat):Int))))),(.s 5,.av (.one (.d (Dm.gen (bO none (fO .i64 S))))))]) (fun k=>S.length-k.1) ⟨0,Nat.zero_le _⟩ (aZ.mk ⟨aB _,aB _,aB _,trivial⟩ rfl rfl) (fun k=>?_);obtain⟨k,hk⟩:=k;simp only;refine CV.seq ?_;refine sr rfl ?_;refine xm ?_;refine xm ?_;refine p1 (bH (lF _) gU) ?_;refine p1 (cM) ?_;refine RV.done ?_;refine CV.cond rfl (fun hc2=>?_) (fun hc2=>?_)
  ·have hlt:k+1<S.length:=(by have:=of_decide_eq_true hc2; omega)
   have hadj:=aLx S k;have hadj1:iF S (k+1)=if S.getD (k+1) 0≠S.getD k 0 then iF S k+1 else iF S k:=rfl;refine CV.skip ?_;refine CV.seq ?_;refine CV.block ?_;refine CV.seq ?_;refine CV.region rfl (fun _=>by kernel_rfl) ?_;refine xm ?_;refine xm ?_;refine p1 (cH (k:=none) (i:=k+1) (pA hlt) gU nT) ?_;refine p1 (bL gG) ?_;refine xm ?_;refine xm ?_;refine p1 (dM (c:=(k:Int)) (by rw[bF (by omega) (by omega)]; omega) rfl rfl bd rfl rfl) ?_;refine p1 (cH (k:=none) (i:=k) (pA (by omega)) gU nT rfl rfl bd rfl rfl (by decide)) ?_;refine p1 (bL gG) ?_;refine p1 (mX) ?_;refine bQ (by kernel_rfl) ?_;refine CV.cond rfl (fun hs2=>?_) (fun hs2=>?_)
   ·refine CV.region rfl (fun h=>nomatch h) ?_;refine xm ?_;refine p1 (cC (c:=iF S k+1) (bF (by omega) (by omega)) rfl rfl bd rfl rfl) ?_;refine xn ?_;refine RV.done ?_;refine CV.region rfl (fun h=>nomatch h) ?_;refine xm ?_;refine p1 (cC (c:=((k+1+1:Nat):Int)) (by rw[bF (by omega) (by omega)]; omega) rfl rfl bd rfl rfl) ?_;refine xn ?_;refine RV.done ?_;rw[if_pos (by simpa using hs2)] at hadj1;exact⟨⟨k+1,by omega⟩,aZ.mk ⟨jG (by rw[hadj1]; rfl),aB _,aB _,trivial⟩ rfl rfl,by show S.length-(k+1)<S.length-k; omega⟩
   ·refine CV.skip ?_;refine CV.region rfl (fun h=>nomatch h) ?_;refine xm ?_;refine p1 (cC (c:=((k+1+1:Nat):Int)) (by rw[bF (by omega) (by omega)]; omega) rfl rfl bd rfl rfl) ?_;refine xn ?_;refine RV.done ?_;rw[if_neg (by simpa using hs2)] at hadj1;exact⟨⟨k+1,by omega⟩,aZ.mk ⟨jG (by rw[hadj1]; rfl),aB _,aB _,trivial⟩ rfl rfl,by show S.length-(k+1)<S.length-k; omega⟩
  ·refine CV.exit ?_;refine sr rfl ?_;refine xm ?_;refine xn ?_;refine RV.done ?_;refine CV.ret ?_;have hk3:k=S.length-1:=(by have:=of_decide_eq_false hc2; omega)
   subst hk3;rw[hlast];exact aQ rfl (.inr rfl) rfl cE
def aA1 (x:Rat) (K:Nat) (c:Int):qQ where
 is:=fun w v=>∃ cs:List Value,v=.agg (cs++[Value.int .i64 c]).toArray/\Dm.at (.rt x.num (qd x) K) w (.agg cs.toArray)
 shape:=some 5
 plain:=false
 ok:=fun w v ⟨cs,h,hc⟩=>by
  subst h;obtain⟨a,n,c',a',n',c'',rfl,_⟩:=iA hc;exact⟨_,rfl,rfl,by simp[Value.oneCell']⟩
 pl:=fun h=>nomatch h
abbrev EG (x:Rat) (K:Nat) (c:Int):SA Dm:=.d (Dm.gen (aA1 x K c))
theorem aMx {x:Rat} {K:Nat} {c:Int}:∀ w v,Dm.at (Dm.gen (aA1 x K c)) w v->∃ cs:List Value,v=.agg cs.toArray/\cs[4]?=some (.int .i64 c):=by
 rintro w v ⟨cs,h,hc⟩;obtain⟨a,n,c',a',n',c'',rfl,_⟩:=iA hc;exact⟨_,h,rfl⟩
theorem uC {x:Rat} {K:Nat} {c:Int}:lT (Dm.gen (aA1 x K c)) 0 (some 4) (RT x K):=by
 rintro w cs ⟨c4,h,hc⟩;obtain rfl:cs=c4++[Value.int .i64 c]:=by simpa using congrArg Array.toList (Value.agg.inj h)
 obtain⟨a,n,c',a',n',c'',e,_⟩:=iA hc;refine⟨[],c4,[Value.int .i64 c],.agg c4.toArray,rfl,rfl,⟨rfl,?_,?_⟩,hc⟩
 ·rw[e]; rfl
 ·rw[e]; simp[Value.oneCell']
theorem qE {x:Rat} {K:Nat} {c:Int}:lT (Dm.gen (aA1 x K c)) 4 none (.v (.int .i64 c)):=by
 rintro w cs ⟨c4,h,hc⟩;obtain rfl:cs=c4++[Value.int .i64 c]:=by simpa using congrArg Array.toList (Value.agg.inj h)
 obtain⟨a,n,c',a',n',c'',e,_⟩:=iA hc;exact⟨c4,[Value.int .i64 c],[],.int .i64 c,by simp,by rw[e]; rfl,⟨rfl,rfl⟩,rfl⟩
theorem uD:iC Tryz.prog 83 0 0:=iC.of (sz:=3) (by kernel_rfl)
theorem qF:iC Tryz.prog 83 1 4:=iC.of (sz:=0) (by kernel_rfl)
theorem aMr:zR Tryz.prog 83 1=some (4,3):=by kernel_rfl
theorem kT:(Tryz.prog.info? 83).map (·.zero)=some (some (.agg #[.bool false,.slice none 0 0,.bool false,.slice none 0 0,.int .i64 0])):=by kernel_rfl
theorem dN:dI Tryz.prog 83 (some 5):=dI.row (by kernel_rfl) (by kernel_rfl)
theorem wW:(Tryz.prog.info? 83).map (·.size)=some 5:=by kernel_rfl
theorem iT:Tryz.prog.underlying 111=some (.slice 83):=by kernel_rfl
theorem aUo (parts:List (Nat × Value)):Tryz.prog.built 83 parts=Instr.fill ((#[(0,4),(4,1)]:Array (Nat × Nat))[·]?) #[.bool false,.slice none 0 0,.bool false,.slice none 0 0,.int .i64 0] parts:=by kernel_rfl
section
variable {cx:Cx Dm} {n:Nat} {σ:St Dm} {o:Oper} {d:Nat}
theorem aH2 {x y:Operand} {a:Rat} {K:Nat} {c:Int} (ho:o.op=.build 83 #[(0,x),(1,y)]) (hd:o.dst=some d) (hn:d<n) (hx:opd σ x=.av (.one (RT a K))) (hy:opd σ y=.av (.one (.v (.int .i64 c)))):aM Tryz.prog cx n σ o (bG x++bG y) [(.s d,.av (.one (EG a K c)))]:=by
 refine eX hd hn rfl fun σ' ρ ac w h hk=>?_;have h1:=h.opd ((cO fun q hq=>hk q (by simp[hq])).trans hx);have h2:ac.eval y=.int .i64 c:=h.opd ((cO fun q hq=>hk q (by simp[hq])).trans hy);obtain⟨cs,hv⟩:∃ cs:List Value,ac.eval x=.agg cs.toArray:=by
  obtain⟨s,t',e,_⟩:=h1 w (Agree.refl _ _);exact⟨_,e⟩
 have h1':∀ w',Agree (aS cx σ' ρ) w w'->Dm.at (.rt a.num (qd a) K) w' (.agg cs.toArray):=fun w' hag=>by rw[<- hv]; exact h1 w' hag
 obtain⟨b,m,c1,b',m',c',rfl,_⟩:=iA (h1' w (Agree.refl _ _));refine⟨.agg #[.bool (decide (a.num<0)),.slice b m c1,.bool (decide (qd a<0)),.slice b' m' c',.int .i64 c],?_,?_⟩
 ·have hb:Tryz.prog.built 83 #[(0,ac.eval x),(1,ac.eval y)].toList=some #[.bool (decide (a.num<0)),.slice b m c1,.bool (decide (qd a<0)),.slice b' m' c',.int .i64 c]:=by
   rw[hv,h2,aUo]
   kernel_rfl
  have hb2:=run_build w 83 #[(0,ac.eval x),(1,ac.eval y)] _ hb;simp only[execOp,ho,Sem.run_bind];rw[show (#[(0,x),(1,y)]:Array (Nat × Operand)).map (fun p=>(p.1,ac.eval p.2))=#[(0,ac.eval x),(1,ac.eval y)] by simp,hb2];rfl
 ·intro w' hag;exact⟨_,rfl,h1' w' hag⟩
end
abbrev lB (l:List (List Rat)) (B:Nat):SA Dm:=.d (Dm.gen (pG none (gD l B)))
theorem yL (l:List (List Rat)) (x:Rat) (B K:Nat) (hl:l.length<=1000000) (hE:fQ l x B K):aD Tryz.prog 116 [RT x K,lB l B] (.one (EG x K (bP x l))):=by
 refine aD.of (n:=9) Tryz.func116 rfl rfl rfl rfl rfl fun cx hfr=>?_;refine sr rfl ?_;refine p1 (kU) ?_;refine p2 (aU (i:=0) kT) ?_;refine RV.done ?_;refine CV.seq ?_;refine CV.region rfl (fun _=>by kernel_rfl) ?_;refine p1 (bL aC) ?_;refine p1 (bL aIx) ?_;refine p1 (bL aC) ?_;refine p1 (aC4 (sI l x B K hl hE) (aMs _) (cx.wf hfr) rfl rfl bd Tryz.func16 rfl rfl (xb rfl rfl) rfl) ?_;refine p1 (aH2 rfl rfl bd rfl rfl) ?_;refine p2 (jD (dN).2) ?_;refine bQ (by kernel_rfl) ?_;refine CV.ret ?_;exact aQ rfl (.inr rfl) ⟨_,_,_,_,_,rfl,rfl,rfl,dN⟩ cE
def nA (l:List (List Rat)) (all:Int) (K:Nat):Nat->Rat->Option Rat
 | 0,_=>none
 | n+1,x=>if bP (-x) l-bP x l=all then some x else if aG [x*x] K=true then nA l all K n (x*x) else none
theorem aR0 {l:List (List Rat)} {all:Int} {K n:Nat} {x y:Rat} (h:nA l all K n x=some y):∃ m,n=m+1:=by
 cases n with
 | zero=>cases h
 | succ m=>exact⟨m,rfl⟩
theorem aRz {l:List (List Rat)} {all:Int} {K n:Nat} {x y:Rat} (h:nA l all K (n+1) x=some y) (hc:bP (-x) l-bP x l=all):x=y:=by
 rw[nA,if_pos hc] at h;exact Option.some.inj h
theorem aUc {l:List (List Rat)} {all:Int} {K n:Nat} {x y:Rat} (h:nA l all K (n+1) x=some y) (hc:¬ bP (-x) l-bP x l=all):aG [x*x] K=true/\nA l all K n (x*x)=some y:=by
 rw[nA,if_neg hc] at h;split at h
 ·rename_i h1; exact⟨h1,h⟩
 ·cases h
theorem aUb (l:List (List Rat)) (b y:Rat) (B K n:Nat) (hl:l.length<=1000000) (hK6:6<=K) (hK:K<=100000) (hb:aG [b] K=true) (hE:∀ x,aG [x] K=true->fQ l x B K) (h:nA l (bP (-b) l-bP b l) K n (Rat.divInt 2 1)=some y):aD Tryz.prog 66 [gD l B,RT b K] (.tup [EG (-y) K (bP (-y) l),EG y K (bP y l)]):=by
 have b1:=mV (-b) l;have b2:=mV b l;have h2:aG [Rat.divInt 2 1] K=true:=lJ hK6 (by decide +kernel);refine aD.of (n:=43) Tryz.func66 rfl rfl rfl rfl rfl fun cx hfr=>?_;refine sr rfl ?_;refine p1 (kU) ?_;refine p2 (bZ (i:=0)) ?_;refine p2 (aU (i:=1) kT) ?_;refine p2 (aU (i:=2) kT) ?_;refine RV.done (sr rfl ?_);refine p1 (tX (caps:=[.tmp 2]) (ss:=[_]) rfl rfl bd (xa rfl) rfl) ?_;refine xn ?_;refine RV.done ?_;refine CV.seq ?_;refine CV.region rfl (fun _=>by kernel_rfl) ?_;refine xm ?_;refine p1 (aJ aC) ?_;refine xc (vX b K) Tryz.func100 (xa rfl) hfr ?_;refine p1 (vL (yL l (-b) B K hl (hE _ (aEm hb))) Tryz.func116 rfl rfl rfl rfl bd rfl (xa rfl) rfl hfr rfl) ?_;refine p1 (aH0 (aMx) aMr (by kernel_rfl) rfl rfl bd rfl) ?_;refine xm ?_;refine p1 (aJ aC) ?_;refine p1 (vL (yL l b B K hl (hE _ hb)) Tryz.func116 rfl rfl rfl rfl bd rfl (xa rfl) rfl hfr rfl) ?_;refine p1 (aH0 (aMx) aMr (by kernel_rfl) rfl rfl bd rfl) ?_;refine p1 (dM (c:=bP (-b) l-bP b l) (bF (by omega) (by omega)) rfl rfl bd rfl rfl) ?_;refine xn ?_;refine bQ (by kernel_rfl) ?_;refine sr rfl ?_;refine xd rfl ((oZ 2 1 (by decide) (by decide) (by decide) (by decide)).mono (fun _ _ _ _ h=>h) (dR h2)) Tryz.func57 (xb rfl rfl) hfr ?_;refine p2 (aU (i:=3) bY) ?_;refine p1 (aP (aC).2) ?_;refine RV.done ?_;refine CV.block ?_;refine CV.loop (X:={z:Nat × Rat // nA l (bP (-b) l-bP b l) K z.1 z.2=some y/\aG [z.2] K=true}) (fun z=>[(.s 6,.av (.one (.d (Dm.gen (qP 116 [lB l B]))))),(.s 7,.av (.one (.v (.int .i64 (bP (-b) l-bP b l))))),(.s 8,.av (.one (.ptr 3 0))),(.b 3,.blk 31 [(some 4,RT z.1.2 K)]),(.s 4,.av (.one (.ptr 1 0))),(.b 1,.blk 83 [(some 5,(SA.v (.agg #[.bool false,.slice none 0 0,.bool false,.slice none 0 0,.int .i64 0]):SA Dm))]),(.s 5,.av (.one (.ptr 2 0))),(.b 2,.blk 83 [(some 5,(SA.v (.agg #[.bool false,.slice none 0 0,.bool false,.slice none 0 0,.int .i64 0]):SA Dm))])]) (fun z=>z.1.1) ⟨(n,Rat.divInt 2 1),h,h2⟩ (aZ.mk ⟨aB _,aB _,aB _,aB _,aB _,aB _,aB _,aB _,trivial⟩ rfl rfl) (fun z=>?_);obtain⟨⟨n,x⟩,hz,hx⟩:=z;simp only at hz hx |-;obtain⟨m,rfl⟩:=aR0 hz;have c1:=mV (-x) l;have c2:=mV x l;refine CV.seq ?_;refine CV.block ?_;refine CV.seq ?_;refine CV.region rfl (fun _=>by kernel_rfl) ?_;refine xm ?_;refine p1 (aJ aC) ?_;refine xc (vX x K) Tryz.func100 (xa rfl) hfr ?_;refine p1 (vL (yL l (-x) B K hl (hE _ (aEm hx))) Tryz.func116 rfl rfl rfl rfl bd rfl (xa rfl) rfl hfr rfl) ?_;refine xm ?_;refine p1 (aJ aC) ?_;refine p1 (vL (yL l x B K hl (hE _ hx)) Tryz.func116 rfl rfl rfl rfl bd rfl (xa rfl) rfl hfr rfl) ?_;refine p2 (aU (i:=4) kT) ?_;refine p2 (aU (i:=5) kT) ?_;refine p2 (jD (dN).2) ?_;refine p2 (jD (dN).2) ?_;refine bQ (by kernel_rfl) ?_;refine sr rfl ?_;refine p1 (bI qF) ?_;refine p1 (bJ 4 qE gG) ?_;refine p1 (bI qF) ?_;refine p1 (bJ 4 qE gG) ?_;refine p1 (dM (c:=bP (-x) l-bP x l) (bF (by omega) (by omega)) rfl rfl bd rfl rfl) ?_;refine xm ?_;refine p1 (cQ) ?_;refine RV.done ?_;refine CV.cond rfl (fun hc=>?_) (fun hc=>?_)
 ·have hxy:=aRz hz (by simpa using hc);refine CV.seq ?_;refine CV.region rfl (fun _=>by kernel_rfl) ?_;refine p1 (aJ dN) ?_;refine p1 (aJ dN) ?_;refine p2 (jD (dN).2) ?_;refine p2 (jD (dN).2) ?_;refine bQ (by kernel_rfl) ?_;refine CV.ret ?_;subst hxy;exact lK rfl (.inr rfl) ⟨_,_,_,_,_,rfl,rfl,rfl,dN⟩ ⟨_,_,_,_,_,rfl,rfl,rfl,dN⟩ rO
 ·have hn:=aUc hz (by simpa using hc);refine CV.skip ?_;refine CV.seq ?_;refine CV.seq ?_;refine CV.sub (l':=[(.s 6,.av (.one (.d (Dm.gen (qP 116 [lB l B]))))),(.s 7,.av (.one (.v (.int .i64 (bP (-b) l-bP b l))))),(.s 8,.av (.one (.ptr 3 0))),(.b 3,.blk 31 [(some 4,RT x K)]),(.s 4,.av (.one (.ptr 1 0))),(.b 1,.blk 83 [(some 5,(SA.v (.agg #[.bool false,.slice none 0 0,.bool false,.slice none 0 0,.int .i64 0]):SA Dm))]),(.s 5,.av (.one (.ptr 2 0))),(.b 2,.blk 83 [(some 5,(SA.v (.agg #[.bool false,.slice none 0 0,.bool false,.slice none 0 0,.int .i64 0]):SA Dm))])]) (aZ.mk ⟨aB _,aB _,aB _,aB _,aB _,aB _,aB _,aB _,trivial⟩ rfl rfl) ?_;refine CV.region rfl (fun h=>nomatch h) ?_;refine p1 (aJ aC) ?_;refine RV.done ?_;refine CV.region rfl (fun h=>nomatch h) ?_;refine p2 (aU (i:=6) bY) ?_;refine p1 (aP (aC).2) ?_;refine RV.done ?_;refine CV.region rfl (fun h=>nomatch h) ?_;refine p1 (aJ aC) ?_;refine p1 (aJ aC) ?_;refine xd rfl ((nS x x K K (by omega) (by omega)).mono (fun _ _ _ _ h=>h) (dR hn.1)) Tryz.func87 (xb rfl rfl) hfr ?_;refine p1 (aP (aC).2) ?_;refine RV.done ?_;exact⟨⟨(m,x*x),hn.2,hn.1⟩,jI (fun i=>if i=3 then 6 else i) ⟨eT,eT,fun _ _ _ _ h=>h,⟨rfl,fun _ _ _ _ h=>h⟩,fun _ _ _ _ h=>h,⟨rfl,fun _ _ _ _ h=>h⟩,fun _ _ _ _ h=>h,⟨rfl,fun _ _ _ _ h=>h⟩,trivial⟩ rfl rfl rfl rfl,by show m<m+1; omega⟩
theorem aV8:nA (lP.map (·.1)) (bP (-4) (lP.map (·.1))-bP 4 (lP.map (·.1))) 6 5 (Rat.divInt 2 1)=some 4:=by decide +kernel
def eL (z:Rat):List Rat->Nat
 | []=>0
 | a::l=>if iW a z<0 then eL z l+1 else 0
theorem aLg (z:Rat):∀ l,eL z l<=l.length
 | []=>Nat.le_refl _
 | a::l=>by
  have:=aLg z l;unfold eL;split
  ·rw[List.length_cons]; omega
  ·exact Nat.zero_le _
theorem aLh (z:Rat):∀ (l:List Rat) (k:Nat),k<eL z l->iW (l.getD k 0) z<0
 | [],k,h=>by simp[eL] at h
 | a::l,k,h=>by
  unfold eL at h;split at h
  ·rename_i h1;cases k with
   | zero=>exact h1
   | succ k=>exact aLh z l k (by omega)
  ·omega
theorem aJs (z:Rat):∀ (l:List Rat),eL z l<l.length->¬ iW (l.getD (eL z l) 0) z<0
 | [],h=>by simp[eL] at h
 | a::l,h=>by
  by_cases h1:iW a z<0
  ·have e:eL z (a::l)=eL z l+1:=by rw[eL,if_pos h1]
   rw[e] at h |-;exact aJs z l (by simpa using h)
  ·have e:eL z (a::l)=0:=by rw[eL,if_neg h1]
   rw[e];exact h1
def oC (z:Rat) (l:List Rat):List Rat:=if eL z l<l.length/\iW (l.getD (eL z l) 0) z=0 then l else l.take (eL z l)++[z]++l.drop (eL z l)
theorem aT2 (z:Rat) (l:List Rat):(oC z l).length<=l.length+1:=by
 unfold oC;split
 ·omega
 ·simp only[List.length_append,List.length_take,List.length_drop,List.length_cons,List.length_nil];omega
def uL (z:Rat):List Rat:=aI [-z,Rat.divInt 1 1]
def mI (zs:List Int) (i:Nat):List Rat:=(zs.take i).foldl (fun p z=>cW p (uL (bW z))) (aI [Rat.divInt 2 3])
def cI (zs:List Int) (i:Nat):List Rat:=(zs.take i).foldl (fun l z=>oC (bW z) l) []
theorem take_at {α:Type} {l:List α} {i:Nat} (h:i<l.length) (d:α):l.take (i+1)=l.take i++[l.getD i d]:=by
 rw[List.take_add_one,List.getElem?_eq_getElem h,List.getD_eq_getElem?_getD,List.getElem?_eq_getElem h];rfl
theorem aG1 {zs:List Int} {i:Nat} (h:i<zs.length):mI zs (i+1)=cW (mI zs i) (uL (bW (zs.getD i 0))):=by
 rw[mI,take_at h 0,List.foldl_append]; rfl
theorem aG0 {zs:List Int} {i:Nat} (h:i<zs.length):cI zs (i+1)=oC (bW (zs.getD i 0)) (cI zs i):=by
 rw[cI,take_at h 0,List.foldl_append]; rfl
theorem aVt:Rat.divInt 1 1=(1:Rat):=by decide +kernel
theorem aEe {m:Int} {e:Nat}:∀ {l:List Rat},(∀ a∈l,∃ z:Int,a*(m:Rat)=(z:Rat)/\z.natAbs<=2^e)->Cm m l e:=by
 intro l h k;rcases Nat.lt_or_ge k l.length with hk | hk
 ·rw[List.getD_eq_getElem?_getD,List.getElem?_eq_getElem hk];exact h _ (List.getElem_mem hk)
 ·rw[dC hk];exact⟨0,by rw[Rat.zero_mul]; rfl,Nat.zero_le _⟩
theorem aJm (z:Rat):uL z=[-z,Rat.divInt 1 1]:=by
 have h1:Rat.divInt 1 1≠(0:Rat):=by decide +kernel
 simp[uL,aI,h1]
theorem aMf (z:Int):Pk (uL (bW z)) 7 2:=by
 refine⟨?_,cN _,by rw[aJm]; exact Nat.le_refl _⟩;rw[aJm];refine⟨12,by decide,by decide,aEe ?_⟩;intro a ha;rcases List.mem_cons.1 ha with rfl | ha
 ·obtain⟨y,h1,h2⟩:=tI z;exact⟨-y,by rw[Rat.neg_mul,h1]; exact(Rat.intCast_neg y).symm,by rw[Int.natAbs_neg]; exact h2⟩
 ·obtain rfl:=List.mem_singleton.1 ha;exact⟨12,by rw[aVt,Rat.one_mul],by decide⟩
theorem aMe:Pk (aI [Rat.divInt 2 3]) 2 1:=by
 refine⟨?_,cN _,by decide +kernel⟩;rw[show aI [Rat.divInt 2 3]=[Rat.divInt 2 3] by decide +kernel];refine⟨3,by decide,by decide,aEe ?_⟩;intro a ha;obtain rfl:=List.mem_singleton.1 ha;exact⟨2,by decide +kernel,by decide⟩
def xM:List Rat:=aI [Rat.divInt 1 1,0,Rat.divInt 1 1]
theorem wX:Pk xM 1 3:=by
 refine⟨?_,cN _,by decide +kernel⟩;rw[show xM=[1,0,1] by decide +kernel];refine⟨1,by decide,by decide,aEe ?_⟩;intro a ha;have:∀ a∈[(1:Rat),0,1],a=1\/a=0:=by decide +kernel
 rcases this a ha with rfl | rfl
 ·exact⟨1,by decide +kernel,by decide⟩
 ·exact⟨0,by decide +kernel,by decide⟩
theorem wB (zs:List Int):∀ i,i<=4->i<=zs.length->Pk (mI zs i) (2+10*i) (1+i)
 | 0,_,_=>aMe
 | i+1,h4,hl=>by
  rw[aG1 (by omega)];have:=(wB zs i (by omega) (by omega)).mul 3 (aMf (zs.getD i 0)) (by omega);exact this.mono (by omega) (by omega)
def mH (zs:List Int) (wild:Int):List Rat:=if wild.tmod 2≠0 then cW (mI zs (min 4 zs.length)) xM else mI zs (min 4 zs.length)
theorem aTl (zs:List Int) (wild:Int):Pk (mH zs wild) 46 7:=by
 have h:=wB zs (min 4 zs.length) (by omega) (by omega);unfold mH;split
 ·exact(h.mul 3 wX (by omega)).mono (by omega) (by omega)
 ·exact h.mono (by omega) (by omega)
theorem aH5 (zs:List Int):∀ i,i<=zs.length->(cI zs i).length<=i
 | 0,_=>Nat.le_refl _
 | i+1,h=>by
  rw[aG0 (by omega)];have:=aT2 (bW (zs.getD i 0)) (cI zs i);have:=aH5 zs i (by omega);omega
theorem aDx {p q:List Rat} {c d n m:Nat} (hp:Pk p c n) (hq:Pk q d m) (hc:c<=290) (hd:d<=290) (hn:n<=10) (hm:m<=10) (t:Nat) (ht:n+m<=2^t) (he:c+d+t<=290):aD Tryz.prog 42 [PL p 10,PL q 10] (.one (PL (cW p q) 10)) :=
 (aXz hp hq hc hd hn hm).mono (fun _ _ _ _ h=>h) (dG ((hp.mul t hq ht).sz (by decide) he))
theorem aQ5 (zs:List Int) (wild:Int) (hz:∀ z∈zs,-9223372036854775808<=z/\z<=9223372036854775807) (hw : -9223372036854775808<=wild/\wild<=9223372036854775807):aD Tryz.prog 10 [ZI .i64 zs,.v (.int .i64 wild)] (.tup [PL (mH zs wild) 10,PL (cI zs (min 4 zs.length)) 1]):=by
 have hr0:aG [Rat.divInt 2 3] 6=true:=by decide +kernel
 have hone:aG [Rat.divInt 1 1] 1=true:=by decide +kernel
 refine aD.of (n:=98) Tryz.func10 rfl rfl rfl rfl rfl fun cx hfr=>?_;refine sr rfl ?_;refine xn ?_;refine xn ?_;refine RV.done (sr rfl ?_);refine xd rfl (iL 2 3 (by decide) (by decide) (by decide) (by decide)) Tryz.func32 (xb rfl rfl) hfr ?_;refine p1 (dY (G:=Dm.gen (bO (some 4) (aW [Rat.divInt 2 3] 6))) (ss:=aW [Rat.divInt 2 3] 6) (cG _ _) cA iS rfl rfl rfl nQ rfl rfl rfl bd (xa rfl)) ?_;refine xd rfl ((iI [Rat.divInt 2 3] 6 (by decide)).mono (fun _ _ _ _ h=>h) (dG (aMe.sz (by decide) (by decide) (B:=10)))) Tryz.func12 (xa rfl) hfr ?_;refine xn ?_;refine RV.done (sr rfl ?_);refine xn ?_;refine RV.done ?_;refine CV.seq ?_;refine sr rfl ?_;refine xn ?_;refine RV.done ?_;refine CV.block ?_;refine CV.loop (X:={i:Nat // i<=4/\i<=zs.length}) (fun i=>[(.s 8,.av (.one (.v (.int .i64 (i.1:Int))))),(.s 0,.av (.one (ZI .i64 zs))),(.s 1,.av (.one (.v (.int .i64 wild)))),(.s 6,.av (.one (PL (mI zs i.1) 10))),(.s 7,.av (.one (PL (cI zs i.1) 1)))]) (fun i=>4-i.1) ⟨0,Nat.zero_le _,Nat.zero_le _⟩ (aZ.mk ⟨aB _,aB _,aB _,aB _,zA rfl (fun L ρ w v h=>nX L ρ w v h),trivial⟩ rfl rfl) (fun i=>?_);obtain⟨i,hi4,hil⟩:=i;simp only;refine CV.seq ?_;refine sr rfl ?_;refine xm ?_;refine xm ?_;refine p1 (bH (lF _) gU) ?_;refine p1 (cM) ?_;refine xm ?_;refine RV.bool (fun g1=>?_) (fun g1=>?_)
 ·refine y1 (bX (.inl rfl)) ?_;refine y1 (cM) ?_;refine p1 (dA) ?_;refine RV.done ?_;refine CV.cond rfl (fun g2=>?_) (fun g2=>?_)
  ·have hlt:i<zs.length:=(by have:=of_decide_eq_true g1; omega)
   have hlt4:i<4:=(by have:=of_decide_eq_true g2; omega)
   have hzi:=hz (zs.getD i 0) (by rw[List.getD_eq_getElem?_getD,List.getElem?_eq_getElem hlt]; exact List.getElem_mem _);have hpk:=wB zs i hi4 hil;have hzl:=aH5 zs i hil;have hps:=aG1 hlt;have hzs:=aG0 hlt;have hlin:=aMf (zs.getD i 0);refine CV.skip ?_;refine CV.seq ?_;refine CV.block ?_;refine sr rfl ?_;refine xm ?_;refine xm ?_;refine p1 (cH (k:=none) (i:=i) (pA hlt) gU nT) ?_;refine p1 (bL gG) ?_;refine xc (sK (zs.getD i 0) hzi.1 hzi.2) Tryz.func11 (xa rfl) hfr ?_;refine p2 (aU (i:=0) bY) ?_;refine p1 (aP (aC).2) ?_;refine RV.done (sr rfl ?_);refine xm ?_;refine p1 (aJ aC) ?_;refine xc (aCg (bW (zs.getD i 0)) 1) Tryz.func24 (xa rfl) hfr ?_;refine xd rfl ((iL 1 1 (by decide) (by decide) (by decide) (by decide)).mono (fun _ _ _ _ h=>h) (dR (B:=1) hone)) Tryz.func32 (xb rfl rfl) hfr ?_;refine p1 (dY (G:=Dm.gen (bO (some 4) (aW [-(bW (zs.getD i 0)),Rat.divInt 1 1] 1))) (ss:=aW [-(bW (zs.getD i 0)),Rat.divInt 1 1] 1) (cG _ _) cA iS rfl rfl rfl nQ rfl rfl rfl bd (xb rfl rfl)) ?_;refine xd rfl ((iI [-(bW (zs.getD i 0)),Rat.divInt 1 1] 1 (by simp)).mono (fun _ _ _ _ h=>h) (dG (hlin.sz (by decide) (by decide) (B:=10)))) Tryz.func12 (xa rfl) hfr ?_;refine xd rfl (aDx hpk hlin (by omega) (by decide) (by omega) (by decide) 3 (by omega) (by omega)) Tryz.func42 (xb rfl rfl) hfr ?_;refine xn ?_;refine RV.done (sr rfl ?_);refine xn ?_;refine RV.done ?_;refine CV.seq ?_;refine CV.block ?_;refine CV.loop (X:={k:Nat // k<=eL (bW (zs.getD i 0)) (cI zs i)}) (fun k=>[(.s 10,.av (.one (.v (.int .i64 (k.1:Int))))),(.s 7,.av (.one (PL (cI zs i) 1))),(.s 9,.av (.one (.ptr 0 0))),(.b 0,.blk 31 [(some 4,RT (bW (zs.getD i 0)) 1)]),(.s 8,.av (.one (.v (.int .i64 (i:Int))))),(.s 0,.av (.one (ZI .i64 zs))),(.s 1,.av (.one (.v (.int .i64 wild)))),(.s 6,.av (.one (PL (cW (mI zs i) (uL (bW (zs.getD i 0)))) 10)))]) (fun k=>eL (bW (zs.getD i 0)) (cI zs i)-k.1) ⟨0,Nat.zero_le _⟩ (aZ.mk ⟨aB _,aB _,aB _,aB _,aB _,aB _,aB _,aB _,trivial⟩ rfl rfl) (fun k=>?_);obtain⟨k,hk⟩:=k;simp only;have hfl:=aLg (bW (zs.getD i 0)) (cI zs i);refine CV.seq ?_;refine CV.seq ?_;refine CV.region rfl (fun _=>by kernel_rfl) ?_;refine xm ?_;refine xm ?_;refine p1 (bH aV cA) ?_;refine p1 (cM) ?_;refine xm ?_;refine RV.bool (fun k1=>?_) (fun k1=>?_)
   ·refine y1 (bX (.inl rfl)) ?_;refine y1 (bX (.inl rfl)) ?_;refine y1 (bX (.inl rfl)) ?_;refine y1 (bH aV cA) ?_;refine y1 (dM (c:=((cI zs i).length:Int)-1) (bF (by omega) (by omega)) rfl rfl bd rfl rfl) ?_;refine y1 (aD2 (c:=(k:Int)) (by have:=of_decide_eq_true k1; split<;>omega) rfl rfl bd rfl rfl) ?_;refine y1 (cH (k:=some 4) (i:=k) (dZ (by have:=of_decide_eq_true k1; omega)) cA cF rfl rfl bd rfl rfl (by decide)) ?_;refine y1 (bL aC) ?_;refine y1 (aJ aC) ?_;refine y1 (cB (xV ((cI zs i).getD k 0) (bW (zs.getD i 0)) 1 1 (by decide) (by decide)) rfl rfl bd Tryz.func23 rfl rfl (xb rfl rfl) rfl hfr rfl) ?_;refine y1 (cM) ?_;refine p1 (dA) ?_;refine bQ (by kernel_rfl) ?_;refine CV.cond rfl (fun k2=>?_) (fun k2=>?_)
    ·have hkn:k+1<=eL (bW (zs.getD i 0)) (cI zs i):=(by by_cases q:k<eL (bW (zs.getD i 0)) (cI zs i); exact q; exfalso; have e:k=eL (bW (zs.getD i 0)) (cI zs i):=(by omega); have q2:=aJs (bW (zs.getD i 0)) (cI zs i) (by rw[<- e]; have:=of_decide_eq_true k1; omega); rw[<- e] at q2; exact q2 (of_decide_eq_true k2))
     refine CV.skip ?_;refine CV.block ?_;refine CV.region rfl (fun h=>nomatch h) ?_;refine xm ?_;refine p1 (cC (c:=((k+1:Nat):Int)) (by rw[bF (by omega) (by omega)]; omega) rfl rfl bd rfl rfl) ?_;refine xn ?_;refine RV.done ?_;exact⟨⟨k+1,hkn⟩,aZ.mk ⟨aB _,aB _,aB _,aB _,aB _,aB _,aB _,aB _,trivial⟩ rfl rfl,by show eL _ _-(k+1)<eL _ _-k; omega⟩
    ·have hkf:k=eL (bW (zs.getD i 0)) (cI zs i):=(by by_cases q:k<eL (bW (zs.getD i 0)) (cI zs i); exact absurd (aLh (bW (zs.getD i 0)) (cI zs i) k q) (of_decide_eq_false k2); omega)
     refine CV.exit ?_;refine CV.seq ?_;refine CV.seq ?_;refine CV.region rfl (fun _=>by kernel_rfl) ?_;refine xm ?_;refine xm ?_;refine p1 (bH aV cA) ?_;refine p1 (cM) ?_;refine xm ?_;refine RV.bool (fun hb=>?_) (fun hb=>False.elim (by have q:=of_decide_eq_false hb; have:=of_decide_eq_true k1; omega));refine y1 (bX (.inl rfl)) ?_;refine y1 (bX (.inl rfl)) ?_;refine y1 (bX (.inl rfl)) ?_;refine y1 (bH aV cA) ?_;refine y1 (dM (c:=((cI zs i).length:Int)-1) (bF (by omega) (by omega)) rfl rfl bd rfl rfl) ?_;refine y1 (aD2 (c:=(k:Int)) (by have:=of_decide_eq_true k1; split<;>omega) rfl rfl bd rfl rfl) ?_;refine y1 (cH (k:=some 4) (i:=k) (dZ (by have:=of_decide_eq_true k1; omega)) cA cF rfl rfl bd rfl rfl (by decide)) ?_;refine y1 (bL aC) ?_;refine y1 (aJ aC) ?_;refine y1 (cB (xV ((cI zs i).getD k 0) (bW (zs.getD i 0)) 1 1 (by decide) (by decide)) rfl rfl bd Tryz.func23 rfl rfl (xb rfl rfl) rfl hfr rfl) ?_;refine y1 (cQ) ?_;refine p1 (dA) ?_;refine bQ (by kernel_rfl) ?_;refine CV.cond rfl (fun k3=>?_) (fun k3=>?_)
     ·have hins:oC (bW (zs.getD i 0)) (cI zs i)=(cI zs i):=(by rw[oC,if_pos ⟨by rw[<- hkf]; have:=of_decide_eq_true k1; omega,by rw[<- hkf]; simpa using k3⟩])
      refine CV.exit ?_;have hd:True:=trivial;refine CV.region rfl (fun h=>nomatch h) ?_;refine xm ?_;refine p1 (cC (c:=((i+1:Nat):Int)) (by rw[bF (by omega) (by omega)]; omega) rfl rfl bd rfl rfl) ?_;refine xn ?_;refine RV.done ?_;exact⟨⟨i+1,by omega,by omega⟩,aZ.mk ⟨aB _,aB _,aB _,jG (by rw[hps]; rfl),jG (by rw[hzs,hins]; rfl),trivial⟩ rfl rfl,by show 4-(i+1)<4-i; omega⟩
     ·have hins:oC (bW (zs.getD i 0)) (cI zs i)=((cI zs i).take k++[(bW (zs.getD i 0))])++(cI zs i).drop k:=(by rw[oC,if_neg (by rintro⟨q1,q2⟩; rw[<- hkf] at q2; rw[q2] at k3; exact absurd k3 (by decide)),<- hkf])
      refine CV.skip ?_;refine sr rfl ?_;refine xn ?_;refine RV.done ?_;refine CV.seq ?_;refine mA 11 100 31 (some 4) rfl rfl rfl rfl ?_;refine CV.region rfl (fun _=>by kernel_rfl) ?_;refine xm ?_;refine xm ?_;refine xm ?_;refine p1 (oU (k:=some 4) (l':=aW ((cI zs i).take k) 1) none (some k) none (by show ((aW (cI zs i) 1).take k).drop 0=_; rw[List.drop_zero,vT]) (by decide) (Nat.zero_le _) (by show k<=(aW (cI zs i) 1).length; rw[aV]; omega) (Nat.le_refl _) (fun h=>nomatch h) cA cF rfl rfl bd rfl trivial rfl trivial) ?_;refine fX (aM.plain (iJ (r:=100) (r':=101) (k:=some 4) (fS (by decide) oO) (by simp only[List.length_append,aV,List.length_take,List.length_drop,List.length_nil,List.length_cons]; omega) (by simp only[List.length_append,aV,List.length_take,List.length_drop,List.length_nil,List.length_cons]; omega) cA fZ rfl rfl rfl pQ (by simp only[List.length_append,aV,List.length_nil,List.length_cons,List.nil_append,Nat.zero_add]) rfl rfl bd rfl rfl rfl rfl rfl rfl rfl rfl) rfl) ?_;refine p1 (aJ aC) ?_;refine p1 (dY (G:=Dm.gen (bO (some 4) (aW [(bW (zs.getD i 0))] 1))) (ss:=aW [(bW (zs.getD i 0))] 1) (cG _ _) cA iS rfl rfl rfl nQ rfl rfl rfl bd (xa rfl)) ?_;refine fX (aM.plain (iJ (r:=101) (r':=102) (k:=some 4) (fS (by decide) oO) (by simp only[List.length_append,aV,List.length_take,List.length_drop,List.length_nil,List.length_cons]; omega) (by simp only[List.length_append,aV,List.length_take,List.length_drop,List.length_nil,List.length_cons]; omega) cA fZ rfl rfl rfl pQ (by simp only[List.length_append,aV,List.length_nil,List.length_cons,List.nil_append,Nat.zero_add]) rfl rfl bd rfl rfl rfl rfl rfl rfl rfl rfl) rfl) ?_;refine xn ?_;refine bQ (by kernel_rfl) ?_;refine CV.region rfl (fun h=>nomatch h) ?_;refine xm ?_;refine xm ?_;refine xm ?_;refine p1 (oU (k:=some 4) (l':=aW ((cI zs i).drop k) 1) (some k) none none (by show ((aW (cI zs i) 1).take (aW (cI zs i) 1).length).drop k=_; rw[List.take_length,yT]) (by decide) (by show k<=(aW (cI zs i) 1).length; rw[aV]; omega) (Nat.le_refl _) (Nat.le_refl _) (fun _=>rfl) cA cF rfl rfl bd rfl rfl trivial trivial) ?_;refine fX (aM.plain (iJ (r:=102) (r':=103) (k:=some 4) (fS (by decide) oO) (by simp only[List.length_append,aV,List.length_take,List.length_drop,List.length_nil,List.length_cons]; omega) (by simp only[List.length_append,aV,List.length_take,List.length_drop,List.length_nil,List.length_cons]; omega) cA fZ rfl rfl rfl pQ (by simp only[List.length_append,aV,List.length_nil,List.length_cons,List.nil_append,Nat.zero_add]) rfl rfl bd rfl rfl rfl rfl rfl rfl rfl rfl) rfl) ?_;refine xn ?_;refine RV.done ?_;refine iK (r:=103) (t:=7) (G:=Dm.gen (bO (some 4) ((([]++aW ((cI zs i).take k) 1)++aW [(bW (zs.getD i 0))] 1)++aW ((cI zs i).drop k) 1))) (cx.bw hfr) rfl rfl (by simp only[List.length_append,List.length_nil]) rfl rfl (cG _ _) (gR _ _) ?_;refine CV.region rfl (fun h=>nomatch h) ?_;refine xm ?_;refine p1 (cC (c:=((i+1:Nat):Int)) (by rw[bF (by omega) (by omega)]; omega) rfl rfl bd rfl rfl) ?_;refine xn ?_;refine RV.done ?_;exact⟨⟨i+1,by omega,by omega⟩,aZ.mk ⟨aB _,aB _,aB _,jG (by rw[hps]; rfl),jG (by rw[hzs,hins]; show XV.av (.one (.d (Dm.gen (bO (some 4) (([]++aW _ 1++aW _ 1)++aW _ 1)))))=_; rw[List.nil_append,yG,yG]),trivial⟩ rfl rfl,by show 4-(i+1)<4-i; omega⟩
   ·have hkf:k=eL (bW (zs.getD i 0)) (cI zs i):=(by have:=of_decide_eq_false k1; omega)
    have hins:oC (bW (zs.getD i 0)) (cI zs i)=((cI zs i).take k++[(bW (zs.getD i 0))])++(cI zs i).drop k:=(by rw[oC,if_neg (by rintro⟨q1,q2⟩; have:=of_decide_eq_false k1; omega),<- hkf])
    refine xk ?_;refine xk ?_;refine xk ?_;refine xk ?_;refine xk ?_;refine xk ?_;refine xk ?_;refine xk ?_;refine xk ?_;refine xk ?_;refine xk ?_;refine p1 (dQ) ?_;refine bQ (by kernel_rfl) ?_;refine CV.no rfl ?_;refine CV.exit ?_;refine CV.seq ?_;refine CV.seq ?_;refine CV.region rfl (fun _=>by kernel_rfl) ?_;refine xm ?_;refine xm ?_;refine p1 (bH aV cA) ?_;refine p1 (cM) ?_;refine xm ?_;refine RV.bool (fun hb=>False.elim (by have q:=of_decide_eq_true hb; have:=of_decide_eq_false k1; omega)) (fun hb=>?_);refine xk ?_;refine xk ?_;refine xk ?_;refine xk ?_;refine xk ?_;refine xk ?_;refine xk ?_;refine xk ?_;refine xk ?_;refine xk ?_;refine xk ?_;refine p1 (dQ) ?_;refine bQ (by kernel_rfl) ?_;refine CV.no rfl ?_;refine CV.skip ?_;refine sr rfl ?_;refine xn ?_;refine RV.done ?_;refine CV.seq ?_;refine mA 11 100 31 (some 4) rfl rfl rfl rfl ?_;refine CV.region rfl (fun _=>by kernel_rfl) ?_;refine xm ?_;refine xm ?_;refine xm ?_;refine p1 (oU (k:=some 4) (l':=aW ((cI zs i).take k) 1) none (some k) none (by show ((aW (cI zs i) 1).take k).drop 0=_; rw[List.drop_zero,vT]) (by decide) (Nat.zero_le _) (by show k<=(aW (cI zs i) 1).length; rw[aV]; omega) (Nat.le_refl _) (fun h=>nomatch h) cA cF rfl rfl bd rfl trivial rfl trivial) ?_;refine fX (aM.plain (iJ (r:=100) (r':=101) (k:=some 4) (fS (by decide) oO) (by simp only[List.length_append,aV,List.length_take,List.length_drop,List.length_nil,List.length_cons]; omega) (by simp only[List.length_append,aV,List.length_take,List.length_drop,List.length_nil,List.length_cons]; omega) cA fZ rfl rfl rfl pQ (by simp only[List.length_append,aV,List.length_nil,List.length_cons,List.nil_append,Nat.zero_add]) rfl rfl bd rfl rfl rfl rfl rfl rfl rfl rfl) rfl) ?_;refine p1 (aJ aC) ?_;refine p1 (dY (G:=Dm.gen (bO (some 4) (aW [(bW (zs.getD i 0))] 1))) (ss:=aW [(bW (zs.getD i 0))] 1) (cG _ _) cA iS rfl rfl rfl nQ rfl rfl rfl bd (xa rfl)) ?_;refine fX (aM.plain (iJ (r:=101) (r':=102) (k:=some 4) (fS (by decide) oO) (by simp only[List.length_append,aV,List.length_take,List.length_drop,List.length_nil,List.length_cons]; omega) (by simp only[List.length_append,aV,List.length_take,List.length_drop,List.length_nil,List.length_cons]; omega) cA fZ rfl rfl rfl pQ (by simp only[List.length_append,aV,List.length_nil,List.length_cons,List.nil_append,Nat.zero_add]) rfl rfl bd rfl rfl rfl rfl rfl rfl rfl rfl) rfl) ?_;refine xn ?_;refine bQ (by kernel_rfl) ?_;refine CV.region rfl (fun h=>nomatch h) ?_;refine xm ?_;refine xm ?_;refine xm ?_;refine p1 (oU (k:=some 4) (l':=aW ((cI zs i).drop k) 1) (some k) none none (by show ((aW (cI zs i) 1).take (aW (cI zs i) 1).length).drop k=_; rw[List.take_length,yT]) (by decide) (by show k<=(aW (cI zs i) 1).length; rw[aV]; omega) (Nat.le_refl _) (Nat.le_refl _) (fun _=>rfl) cA cF rfl rfl bd rfl rfl trivial trivial) ?_;refine fX (aM.plain (iJ (r:=102) (r':=103) (k:=some 4) (fS (by decide) oO) (by simp only[List.length_append,aV,List.length_take,List.length_drop,List.length_nil,List.length_cons]; omega) (by simp only[List.length_append,aV,List.length_take,List.length_drop,List.length_nil,List.length_cons]; omega) cA fZ rfl rfl rfl pQ (by simp only[List.length_append,aV,List.length_nil,List.length_cons,List.nil_append,Nat.zero_add]) rfl rfl bd rfl rfl rfl rfl rfl rfl rfl rfl) rfl) ?_;refine xn ?_;refine RV.done ?_;refine iK (r:=103) (t:=7) (G:=Dm.gen (bO (some 4) ((([]++aW ((cI zs i).take k) 1)++aW [(bW (zs.getD i 0))] 1)++aW ((cI zs i).drop k) 1))) (cx.bw hfr) rfl rfl (by simp only[List.length_append,List.length_nil]) rfl rfl (cG _ _) (gR _ _) ?_;refine CV.region rfl (fun h=>nomatch h) ?_;refine xm ?_;refine p1 (cC (c:=((i+1:Nat):Int)) (by rw[bF (by omega) (by omega)]; omega) rfl rfl bd rfl rfl) ?_;refine xn ?_;refine RV.done ?_;exact⟨⟨i+1,by omega,by omega⟩,aZ.mk ⟨aB _,aB _,aB _,jG (by rw[hps]; rfl),jG (by rw[hzs,hins]; show XV.av (.one (.d (Dm.gen (bO (some 4) (([]++aW _ 1++aW _ 1)++aW _ 1)))))=_; rw[List.nil_append,yG,yG]),trivial⟩ rfl rfl,by show 4-(i+1)<4-i; omega⟩
  ·have hmin:i=min 4 zs.length:=(by have:=of_decide_eq_false g2; omega)
   refine CV.exit ?_;refine CV.seq ?_;refine sr rfl ?_;refine xm ?_;refine p1 (wL) ?_;refine p1 (mX) ?_;refine RV.done ?_;refine CV.cond rfl (fun v1=>?_) (fun v1=>?_)
   ·have hv:mH zs wild=cW (mI zs i) xM:=(by rw[mH,if_pos (by simpa using v1),hmin])
    have hpi:=wB zs i hi4 hil;refine CV.region rfl (fun h=>nomatch h) ?_;refine xm ?_;refine xd rfl (iL 1 1 (by decide) (by decide) (by decide) (by decide)) Tryz.func32 (xb rfl rfl) hfr ?_;refine p1 (mO) ?_;refine xd rfl (iL 1 1 (by decide) (by decide) (by decide) (by decide)) Tryz.func32 (xb rfl rfl) hfr ?_;refine p1 (dY (G:=Dm.gen (bO (some 4) (aW [Rat.divInt 1 1,0,Rat.divInt 1 1] 6))) (ss:=aW [Rat.divInt 1 1,0,Rat.divInt 1 1] 6) (cG _ _) cA iS rfl rfl rfl nQ rfl rfl rfl bd (.cons rfl cS.any (.cons rfl ⟨rfl,fun L ρ w v h=>dT rfl rfl (Nat.zero_le _) L ρ w v h⟩ (xa rfl)))) ?_;refine xd rfl ((iI [Rat.divInt 1 1,0,Rat.divInt 1 1] 6 (by decide)).mono (fun _ _ _ _ h=>h) (dG (wX.sz (by decide) (by decide) (B:=10)))) Tryz.func12 (xa rfl) hfr ?_;refine xd rfl (aDx hpi wX (by omega) (by decide) (by omega) (by decide) 3 (by omega) (by omega)) Tryz.func42 (xb rfl rfl) hfr ?_;refine xn ?_;refine RV.done (sr rfl ?_);refine xm ?_;refine xm ?_;refine xn ?_;refine xn ?_;refine RV.done ?_;refine CV.ret ?_;rw[hv,<- hmin];exact lK rfl (.inr rfl) rfl rfl rO
   ·have hv:mH zs wild=mI zs i:=(by rw[mH,if_neg (by simpa using v1),hmin])
    refine CV.skip ?_;refine sr rfl ?_;refine xm ?_;refine xm ?_;refine xn ?_;refine xn ?_;refine RV.done ?_;refine CV.ret ?_;rw[hv,<- hmin];exact lK rfl (.inr rfl) rfl rfl rO
 ·have hmin:i=min 4 zs.length:=(by have:=of_decide_eq_false g1; omega)
  refine xk ?_;refine xk ?_;refine p1 (dQ) ?_;refine RV.done ?_;refine CV.no rfl ?_;refine CV.exit ?_;refine CV.seq ?_;refine sr rfl ?_;refine xm ?_;refine p1 (wL) ?_;refine p1 (mX) ?_;refine RV.done ?_;refine CV.cond rfl (fun v1=>?_) (fun v1=>?_)
  ·have hv:mH zs wild=cW (mI zs i) xM:=(by rw[mH,if_pos (by simpa using v1),hmin])
   have hpi:=wB zs i hi4 hil;refine CV.region rfl (fun h=>nomatch h) ?_;refine xm ?_;refine xd rfl (iL 1 1 (by decide) (by decide) (by decide) (by decide)) Tryz.func32 (xb rfl rfl) hfr ?_;refine p1 (mO) ?_;refine xd rfl (iL 1 1 (by decide) (by decide) (by decide) (by decide)) Tryz.func32 (xb rfl rfl) hfr ?_;refine p1 (dY (G:=Dm.gen (bO (some 4) (aW [Rat.divInt 1 1,0,Rat.divInt 1 1] 6))) (ss:=aW [Rat.divInt 1 1,0,Rat.divInt 1 1] 6) (cG _ _) cA iS rfl rfl rfl nQ rfl rfl rfl bd (.cons rfl cS.any (.cons rfl ⟨rfl,fun L ρ w v h=>dT rfl rfl (Nat.zero_le _) L ρ w v h⟩ (xa rfl)))) ?_;refine xd rfl ((iI [Rat.divInt 1 1,0,Rat.divInt 1 1] 6 (by decide)).mono (fun _ _ _ _ h=>h) (dG (wX.sz (by decide) (by decide) (B:=10)))) Tryz.func12 (xa rfl) hfr ?_;refine xd rfl (aDx hpi wX (by omega) (by decide) (by omega) (by decide) 3 (by omega) (by omega)) Tryz.func42 (xb rfl rfl) hfr ?_;refine xn ?_;refine RV.done (sr rfl ?_);refine xm ?_;refine xm ?_;refine xn ?_;refine xn ?_;refine RV.done ?_;refine CV.ret ?_;rw[hv,<- hmin];exact lK rfl (.inr rfl) rfl rfl rO
  ·have hv:mH zs wild=mI zs i:=(by rw[mH,if_neg (by simpa using v1),hmin])
   refine CV.skip ?_;refine sr rfl ?_;refine xm ?_;refine xm ?_;refine xn ?_;refine xn ?_;refine RV.done ?_;refine CV.ret ?_;rw[hv,<- hmin];exact lK rfl (.inr rfl) rfl rfl rO
section
variable (zs1 zs2 zs3:List Int) (hz1:∀ z∈zs1,-9223372036854775808<=z/\z<=9223372036854775807) (hz2:∀ z∈zs2,-9223372036854775808<=z/\z<=9223372036854775807) (hz3:∀ z∈zs3,-9223372036854775808<=z/\z<=9223372036854775807) (c:Int) (hc1 : -9223372036854775808<=c) (hc2:c<=9223372036854775807)
include hz1 hz2 hz3 hc1 hc2
end
end Vc
end Go.Proofs.YtjmbkipbmbnhjaaGreat
