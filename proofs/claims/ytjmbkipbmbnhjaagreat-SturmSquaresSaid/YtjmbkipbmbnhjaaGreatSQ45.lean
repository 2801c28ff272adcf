/-
  
-/
import Derived.Test.YtjmbkipbmbnhjaaGreatSQ44
import Derived.Test.YtjmbkipbmbnhjaaGreatSQ9
import Derived.Test.YtjmbkipbmbnhjaaGreatSQ36
import Derived.Test.YtjmbkipbmbnhjaaGreatSQ41
set_option linter.unusedVariables false
set_option linter.unusedSimpArgs false
set_option linter.unusedSectionVars false
namespace Go.Proofs.YtjmbkipbmbnhjaaGreat
open Go.RowKit
open Go.Lib (hid)
open Dg Zn
namespace Vc
def prG (a b:Rat) (j k:Nat):qW where
 is:=fun w v=>∃ (c e:List Value),v=.agg (c++e).toArray/\Dm.at (.rt a.num (qd a) j) w (.agg c.toArray)/\Dm.at (.rt b.num (qd b) k) w (.agg e.toArray)
 shape:=some 8
 plain:=true
 ok:=fun w v ⟨c,e,h,hc,he⟩=>by
  subst h;obtain⟨a,n,c',a',n',c'',rfl,_⟩:=gT hc;obtain⟨b,m,d',b',m',d'',rfl,_⟩:=gT he;exact⟨_,rfl,rfl,by simp[Value.oneCell']⟩
 pl:=fun _ w v ⟨c,e,h,hc,he⟩=>by
  subst h;obtain⟨a,n,c',a',n',c'',rfl,_⟩:=gT hc;obtain⟨b,m,d',b',m',d'',rfl,_⟩:=gT he;simp[Value.cells,cW]
abbrev PR (a b:Rat) (j k:Nat):SA Dm:=.d (Dm.gen (prG a b j k))
theorem aKx:(Tryz.prog.info? 51).map (·.zero)=some (some (.agg #[.bool false,.slice none 0 0,.bool false,.slice none 0 0,.bool false,.slice none 0 0,.bool false,.slice none 0 0])):=by kernel_rfl
theorem aA7:dG Tryz.prog 51 (some 8):=dG.row (by kernel_rfl) (by kernel_rfl)
theorem aUj (parts:List (Nat × Value)):Tryz.prog.built 51 parts=Instr.fill (fun i=>some (i*4,4)) #[.bool false,.slice none 0 0,.bool false,.slice none 0 0,.bool false,.slice none 0 0,.bool false,.slice none 0 0] parts:=by kernel_rfl
section
variable {P:Program} {cx:Cx Dm} {n:Nat} {σ:St Dm} {o:Oper} {d t:Nat}
theorem aG4 {x y:Operand} {a b:Rat} {j k:Nat} (ho:o.op=.build 51 #[(0,x),(1,y)]) (hd:o.dst=some d) (hn:d<n) (hx:opd σ x=.av (.one (RT a j))) (hy:opd σ y=.av (.one (RT b k))):aS Tryz.prog cx n σ o (bF x++bF y) [(.s d,.av (.one (PR a b j k)))]:=by
 refine eV hd hn rfl fun σ' ρ a' w h hk=>?_;have h1:=h.opd ((cQ fun q hq=>hk q (by simp[hq])).trans hx);have h2:=h.opd ((cQ fun q hq=>hk q (by simp[hq])).trans hy);have cells:∀ {z:Operand} {q:Rat} {i:Nat},(RT q i).is (aY cx σ' ρ) ρ w (a'.eval z)->∃ cs:List Value,a'.eval z=.agg cs.toArray:=fun h=>by
  obtain⟨s,t',e,_⟩:=h w (Agree.refl _ _);exact⟨_,e⟩
 obtain⟨cs,hv⟩:=cells h1;obtain⟨es,hv'⟩:=cells h2;have h1':∀ w',Agree (aY cx σ' ρ) w w'->Dm.at (.rt a.num (qd a) j) w' (.agg cs.toArray):=fun w' hag=>by rw[<- hv]; exact h1 w' hag
 have h2':∀ w',Agree (aY cx σ' ρ) w w'->Dm.at (.rt b.num (qd b) k) w' (.agg es.toArray):=fun w' hag=>by rw[<- hv']; exact h2 w' hag
 obtain⟨p1,p2,p3,p4,p5,p6,rfl,_⟩:=gT (h1' w (Agree.refl _ _));obtain⟨q1,q2,q3,q4,q5,q6,rfl,_⟩:=gT (h2' w (Agree.refl _ _));refine⟨.agg #[.bool (decide (a.num<0)),.slice p1 p2 p3,.bool (decide (qd a<0)),.slice p4 p5 p6,.bool (decide (b.num<0)),.slice q1 q2 q3,.bool (decide (qd b<0)),.slice q4 q5 q6],?_,?_⟩
 ·have hb:Tryz.prog.built 51 #[(0,a'.eval x),(1,a'.eval y)].toList=some #[.bool (decide (a.num<0)),.slice p1 p2 p3,.bool (decide (qd a<0)),.slice p4 p5 p6,.bool (decide (b.num<0)),.slice q1 q2 q3,.bool (decide (qd b<0)),.slice q4 q5 q6]:=by
   rw[hv,hv',aUj]
   kernel_rfl
  have hb2:=run_build w 51 #[(0,a'.eval x),(1,a'.eval y)] _ hb;simp only[execOp,ho,Sem.run_bind];rw[show (#[(0,x),(1,y)]:Array (Nat × Operand)).map (fun p=>(p.1,a'.eval p.2))=#[(0,a'.eval x),(1,a'.eval y)] by simp,hb2];rfl
 ·intro w' hag;exact⟨_,_,rfl,h1' w' hag,h2' w' hag⟩
end
section
variable (p:List Rat) (lo hi:Rat) (K Kx:Nat) (hp:p.length<=1000000) (hl:fR [p] lo K Kx) (hh:fR [p] hi K Kx)
include hp hl hh
end
def gX (lo hi:Rat):Rat:=(lo+hi)*Rat.divInt 1 2
section
variable (p:List Rat) (L:List (List Rat × Rat)) (lo hi:Rat) (B K:Nat) (hB:B<=300000) (hp:p.length<=1000000) (h:mQ B p=some L) (hL:L.length<=1000000) (hm:aD [gX lo hi] K=true) (p1:fR [p] lo B K) (p2:fR [p] hi B K) (p3:fR [p] (gX lo hi) B K) (h1:fR (L.map (·.1)) lo B K) (h3:fR (L.map (·.1)) (gX lo hi) B K)
include hB hp h hL hm p1 p2 p3 h1 h3
end
section
variable {p:List Rat} {c n:Nat}
end
section
variable (zs1 zs2:List Int) (hz1:∀ z∈zs1,-9223372036854775808<=z/\z<=9223372036854775807) (hz2:∀ z∈zs2,-9223372036854775808<=z/\z<=9223372036854775807) (c d:Int) (hc1 : -9223372036854775808<=c) (hc2:c<=9223372036854775807) (hd1 : -9223372036854775808<=d) (hd2:d<=9223372036854775807)
include hz1 hz2 hc1 hc2 hd1 hd2
end
/-! Lists of pairs of polynomials. -/
theorem aI6:dG Tryz.prog 34 none:=dG.one (by kernel_rfl) (by kernel_rfl)
theorem aFn {x:Rat} {Kx:Nat} (h1:1<=Kx) (hx:aD [x] Kx=true):∀ k,aD [pw x k] (k*Kx+1)=true
 | 0=>by
  show aD [(1:Rat)] _=true;exact lJ (by omega) (show aD [(1:Rat)] 1=true by decide +kernel)
 | k+1=>by
  show aD [pw x k*x] _=true;rw[Nat.succ_mul];exact lJ (by omega) (aAs (by omega) h1 (aFn h1 hx k) hx)
theorem aMc {p:List Rat} {x:Rat} {K Kx:Nat} (hK:1<=K) (h1:1<=Kx) (hp:aD p K=true) (hx:aD [x] Kx=true) (n:Nat):∀ k,k<=n->aD [mP p x k] (1+k*(K+(n*Kx+1)+1))=true
 | 0,_=>wT
 | k+1,h=>by
  have h2:=Nat.mul_le_mul_right Kx (show k<=n by omega);show aD [mP p x k+p.getD k 0*pw x k] _=true;rw[Nat.succ_mul];exact lJ (by omega) (aE0 (j:=1+k*(K+(n*Kx+1)+1)) (k:=K+(n*Kx+1)) (by omega) (by omega) (aMc hK h1 hp hx n k (by omega)) (aAs hK (by omega) (uJ hp k) (lJ (by omega) (aFn h1 hx k))))
section
variable (zs1 zs2:List Int) (hz1:∀ z∈zs1,-9223372036854775808<=z/\z<=9223372036854775807) (hz2:∀ z∈zs2,-9223372036854775808<=z/\z<=9223372036854775807) (c:Int) (hc1 : -9223372036854775808<=c) (hc2:c<=9223372036854775807)
include hz1 hz2 hc1 hc2
end
theorem aCg {g:List Rat} (tg:aJ g=g) (hl:aK g=1):cL g=g:=iD (cC _) tg fun x=>by
 rw[cL,bH,hl,show (1:Rat)/1=1 by decide +kernel,Rat.mul_one]
theorem uP {u g:List Rat} {c n:Nat} (hu:Pk u c n) (hu0:u≠[]) (hn:n<=2^c) (tg:aJ g=g) (hl:aK g=1) (h:Dv g u):Pk g (xW c n) n:=by
 have h1:=aDv hu.tr hu0 hu.cb hu.len hn tg h;rw[aCg tg hl] at h1;exact⟨h1,tg,Nat.le_trans (mK tg hu.tr hu0 h).2.1 hu.len⟩
section
variable (zs1 zs2:List Int) (hz1:∀ z∈zs1,-9223372036854775808<=z/\z<=9223372036854775807) (hz2:∀ z∈zs2,-9223372036854775808<=z/\z<=9223372036854775807)
include hz1 hz2
end
end Vc
end Go.Proofs.YtjmbkipbmbnhjaaGreat

namespace Go.Proofs.YtjmbkipbmbnhjaaGreat
open Go.RowKit
open Dg Zn
namespace Vc
section
variable {u v G U R F:List Rat}
variable {c d n m:Nat}
theorem oJ (t:Nat) (hp:Pk u c n) (hq:Pk v d m) (ht:n+m<=2^t) (he:c+d+t<=5800) (hn:n<=1000) (hm:m<=1000) (hM:min n m<=7):aC Tryz.prog 33 [PL u 200,PL v 200] (.one (PL (aT u v) 200)):=by
 have h2:=hp.len;have h3:=hq.len;by_cases h0:v=[]
 ·subst h0;rw[aVu];exact aSq u 200 200 (by omega) (by decide)
 ·have hql:=List.length_pos_iff.2 h0;refine aKu u v 200 7 200 hql (by omega) (by omega) (by decide) (by omega) (by decide) (aK0 fun k _=>?_);rw[aAu hql];obtain⟨M,m1,m2,m3⟩:=hp.cb.cv hq.cb (t:=t) (by omega);obtain⟨z,z1,z2⟩:=m3 k;exact nC (by decide) he ⟨z,M,m1,z1,z2,m2⟩
end
end Vc
end Go.Proofs.YtjmbkipbmbnhjaaGreat

namespace Go.Proofs.YtjmbkipbmbnhjaaGreat
open Go.RowKit
open Go.Lib (hid)
open Dg Zn
namespace Vc
def gM:List Rat:=[2,-3,0,1]
def lS:List (List Rat × Rat):=[([-2,1,1],1),([1,2],1),([1],9/4)]
theorem aFb:mQ 100000 gM=some lS:=by decide +kernel
theorem aT4:sN gM=4:=by decide +kernel
theorem aX0:∀ z∈lS,aD (aI z.1 z.2) 100000=true:=by decide +kernel
theorem aFa {x:Rat} (hx:aD [x] 6=true):fR (lS.map (·.1)) x 100000 6:=by
 refine⟨by decide,by decide,by decide,by decide,hx,fun p hp=>?_⟩;have h:∀ p∈lS.map (·.1),(decide (p.length<=1000000)&&(aD p 100000&&decide (gZ 100000 6 p.length<=1000000)))=true:=by decide +kernel
 have:=h p hp;rw[Bool.and_eq_true,Bool.and_eq_true,decide_eq_true_eq,decide_eq_true_eq] at this;exact⟨this.1,this.2.1,this.2.2⟩
theorem aDr (a b:Int) (n:Int) (ha:aD [Rat.divInt a 1] 6=true) (hb:aD [Rat.divInt b 1] 6=true) (hn:gY (lS.map (·.1)) (Rat.divInt a 1) (Rat.divInt b 1)=n):aC Tryz.prog 25 [PL gM 100000,RT (Rat.divInt a 1) 6,RT (Rat.divInt b 1) 6] (.one (.v (.int .i64 n))):=by
 rw[<- hn];exact aIy gM lS (Rat.divInt a 1) (Rat.divInt b 1) 100000 6 (by decide) (by decide) aFb (by decide) (aFa ha) (aFa hb)
theorem aR9:aC Tryz.prog 25 [PL gM 100000,RT (Rat.divInt (-3) 1) 6,RT (Rat.divInt 3 1) 6] (.one (.v (.int .i64 2))):=aDr (-3) 3 2 (by decide +kernel) (by decide +kernel) (by decide +kernel)
theorem aR8:aC Tryz.prog 25 [PL gM 100000,RT (Rat.divInt (-2) 1) 6,RT (Rat.divInt 1 1) 6] (.one (.v (.int .i64 1))):=aDr (-2) 1 1 (by decide +kernel) (by decide +kernel) (by decide +kernel)
theorem aR7:aC Tryz.prog 25 [PL gM 100000,RT (Rat.divInt 1 1) 6,RT (Rat.divInt 5 1) 6] (.one (.v (.int .i64 0))):=aDr 1 5 0 (by decide +kernel) (by decide +kernel) (by decide +kernel)
theorem aT3:aC Tryz.prog 15 [PL gM 100000] (.one (mR [[-2,1,1],[1,2],[9/4]] 100000)):=by
 have h:=aSv gM lS 100000 (by decide) (by decide) aFb (by decide) (fun z hz=>(show ∀ z∈lS,z.1.length<=1000000 by decide +kernel) z hz) aX0;have e:lS.map (fun e=>aI e.1 e.2)=[[-2,1,1],[1,2],[9/4]]:=by decide +kernel
 rwa[e] at h
set_option maxRecDepth 100000
def kO (p q:List Rat) (l:List (List Rat)) (lo hi:Rat):Bool :=
 if p.length=0 then true else if cX lo hi>0 then true else if cX lo hi=0 then decide (cK (ev p lo) >= 0)
 else if (if cK (ev q hi)=0 then gY l lo hi-1 else gY l lo hi)=0 then decide (cK (ev q (gX lo hi))>0) else false
section
variable (p q:List Rat) (L:List (List Rat × Rat)) (lo hi:Rat) (B K:Nat) (hB:B<=300000) (hp:p.length<=1000000) (hq:q.length<=1000000) (hodd:aC Tryz.prog 88 [PL p B] (.one (PL q B))) (h:mQ B q=some L) (hL:L.length<=1000000) (hm:aD [gX lo hi] K=true) (p1:fR [p] lo B K) (q2:fR [q] hi B K) (q3:fR [q] (gX lo hi) B K) (l1:fR (L.map (·.1)) lo B K) (l2:fR (L.map (·.1)) hi B K)
include hB hp hq hodd h hL hm p1 q2 q3 l1 l2
theorem aIu:aC Tryz.prog 39 [PL p B,RT lo K,RT hi K] (.one (.v (.bool (kO p q (L.map (·.1)) lo hi)))):=by
 obtain⟨hBm,hK,hB1,hK1,sl,pall⟩:=p1;obtain⟨_,_,_,_,sh,qall⟩:=q2;obtain⟨_,_,_,_,sm,_⟩:=q3;obtain⟨_,pz,pb⟩:=pall p List.mem_cons_self;obtain⟨_,qz,qb⟩:=qall q List.mem_cons_self;have b1:=mZ lo (L.map (·.1));have b2:=mZ hi (L.map (·.1));have bl:(L.map (·.1)).length=L.length:=List.length_map _;have bc : -1000000<=gY (L.map (·.1)) lo hi/\gY (L.map (·.1)) lo hi<=1000000:=by unfold gY; split<;>omega
 refine aC.of (n:=50) Tryz.func39 rfl rfl rfl rfl rfl fun cx hfr=>?_;refine sr rfl ?_;refine p2 (cG (i:=0)) ?_;refine p2 (cG (i:=1)) ?_;refine xn ?_;refine RV.done (sr rfl ?_);refine p1 (aG aB) ?_;refine p1 (aG aB) ?_;refine xd rfl (yR lo hi K K (by omega) (by omega)) Tryz.func55 (xb rfl rfl) hfr ?_;refine xn ?_;refine RV.done ?_;refine CV.seq ?_;refine CV.block ?_;refine sr rfl ?_;refine xm ?_;refine p1 (bY bL bG) ?_;refine p1 (dF) ?_;refine xm ?_;refine RV.bool (fun c1=>?_) (fun c1=>?_)
 ·refine xk ?_;refine xk ?_;refine p1 (cI) ?_;refine xn ?_;refine RV.done ?_;refine CV.yes rfl ?_;refine sr rfl ?_;refine xn ?_;refine RV.done ?_;refine CV.ret ?_;have e1:p.length=0:=(by simpa using c1)
  exact aW rfl (.inr rfl) rfl (fV (by rw[kO,if_pos e1]))
 ·refine y1 (bU (.inl rfl)) ?_;refine y1 (iC) ?_;refine p1 (cN) ?_;refine xn ?_;refine RV.done ?_;refine CV.cond rfl (fun c2=>?_) (fun c2=>?_)
  ·refine sr rfl ?_;refine xn ?_;refine RV.done ?_;refine CV.ret ?_;have e1:¬ p.length=0:=(by simpa using c1)
   have e2:=of_decide_eq_true c2;exact aW rfl (.inr rfl) rfl (fV (by rw[kO,if_neg e1,if_pos e2]))
  ·refine sr rfl ?_;refine xm ?_;refine p1 (dF) ?_;refine xn ?_;refine RV.done ?_;refine CV.cond rfl (fun c3=>?_) (fun c3=>?_)
   ·refine sr rfl ?_;refine xm ?_;refine p1 (aG aB) ?_;refine xc (wJ p lo B K hp hBm hK hB1 hK1 pz sl pb) Tryz.func49 (xb rfl rfl) hfr ?_;refine p1 (xA) ?_;refine xn ?_;refine RV.done ?_;refine CV.ret ?_;have e1:¬ p.length=0:=(by simpa using c1)
    have e2:=of_decide_eq_false c2;have e3:cX lo hi=0:=(by simpa using c3)
    exact aW rfl (.inr rfl) rfl (fV (by rw[kO,if_neg e1,if_neg e2,if_pos e3]))
   ·refine CV.skip ?_;refine sr rfl ?_;refine xm ?_;refine p1 (aU hodd rfl rfl bd Tryz.func88 rfl rfl (xa rfl) rfl hfr rfl) ?_;refine xn ?_;refine RV.done (sr rfl ?_);refine xm ?_;refine p1 (aG aB) ?_;refine p1 (aG aB) ?_;refine xc (aIy q L lo hi B K hB hq h hL l1 l2) Tryz.func25 (.cons rfl cP.any (xb rfl rfl)) hfr ?_;refine xn ?_;refine RV.done ?_;refine CV.seq ?_;refine sr rfl ?_;refine xm ?_;refine p1 (aG aB) ?_;refine xc (wJ q hi B K hq hBm hK hB1 hK1 qz sh qb) Tryz.func49 (xb rfl rfl) hfr ?_;refine p1 (dF) ?_;refine RV.done ?_;refine CV.cond rfl (fun c4=>?_) (fun c4=>?_)
    ·refine CV.region rfl (fun h=>nomatch h) ?_;refine xm ?_;refine p1 (eD (c:=gY (L.map (·.1)) lo hi-1) (cF (by omega) (by omega)) rfl rfl bd rfl rfl) ?_;refine xn ?_;refine RV.done (sr rfl ?_);refine xm ?_;refine p1 (dF) ?_;refine xm ?_;refine RV.bool (fun c5=>?_) (fun c5=>?_)
     ·refine y1 (bU (.inl rfl)) ?_;refine y1 (aG aB) ?_;refine y1 (aG aB) ?_;refine y1 (aU ((aCh lo hi K K (by omega) (by omega)).mono (fun _ _ _ _ h=>h) (dY hm)) rfl rfl bd Tryz.func69 rfl rfl (xb rfl rfl) rfl hfr rfl) ?_;refine y1 (aU (wJ q (gX lo hi) B K hq hBm hK hB1 hK1 qz sm qb) rfl rfl bd Tryz.func49 rfl rfl (xb rfl rfl) rfl hfr rfl) ?_;refine y1 (iC) ?_;refine p1 (cI) ?_;refine xn ?_;refine RV.done ?_;refine CV.ret ?_;have e1:¬ p.length=0:=(by simpa using c1)
      have e2:=of_decide_eq_false c2;have e3:¬ cX lo hi=0:=(by simpa using c3)
      have e4:cK (ev q hi)=0:=(by simpa using c4)
      have e5:gY (L.map (·.1)) lo hi-1=0:=(by simpa using c5)
      exact aW rfl (.inr rfl) rfl (fV (by rw[kO,if_neg e1,if_neg e2,if_neg e3,if_pos e4,if_pos e5]))
     ·refine xk ?_;refine xk ?_;refine xk ?_;refine xk ?_;refine xk ?_;refine xk ?_;refine p1 (cN) ?_;refine xn ?_;refine RV.done ?_;refine CV.ret ?_;have e1:¬ p.length=0:=(by simpa using c1)
      have e2:=of_decide_eq_false c2;have e3:¬ cX lo hi=0:=(by simpa using c3)
      have e4:cK (ev q hi)=0:=(by simpa using c4)
      have e5:¬ gY (L.map (·.1)) lo hi-1=0:=(by simpa using c5)
      exact aW rfl (.inr rfl) rfl (fV (by rw[kO,if_neg e1,if_neg e2,if_neg e3,if_pos e4,if_neg e5]))
    ·refine CV.skip ?_;refine sr rfl ?_;refine xm ?_;refine p1 (dF) ?_;refine xm ?_;refine RV.bool (fun c5=>?_) (fun c5=>?_)
     ·refine y1 (bU (.inl rfl)) ?_;refine y1 (aG aB) ?_;refine y1 (aG aB) ?_;refine y1 (aU ((aCh lo hi K K (by omega) (by omega)).mono (fun _ _ _ _ h=>h) (dY hm)) rfl rfl bd Tryz.func69 rfl rfl (xb rfl rfl) rfl hfr rfl) ?_;refine y1 (aU (wJ q (gX lo hi) B K hq hBm hK hB1 hK1 qz sm qb) rfl rfl bd Tryz.func49 rfl rfl (xb rfl rfl) rfl hfr rfl) ?_;refine y1 (iC) ?_;refine p1 (cI) ?_;refine xn ?_;refine RV.done ?_;refine CV.ret ?_;have e1:¬ p.length=0:=(by simpa using c1)
      have e2:=of_decide_eq_false c2;have e3:¬ cX lo hi=0:=(by simpa using c3)
      have e4:¬ cK (ev q hi)=0:=(by simpa using c4)
      have e5:gY (L.map (·.1)) lo hi=0:=(by simpa using c5)
      exact aW rfl (.inr rfl) rfl (fV (by rw[kO,if_neg e1,if_neg e2,if_neg e3,if_neg e4,if_pos e5]))
     ·refine xk ?_;refine xk ?_;refine xk ?_;refine xk ?_;refine xk ?_;refine xk ?_;refine p1 (cN) ?_;refine xn ?_;refine RV.done ?_;refine CV.ret ?_;have e1:¬ p.length=0:=(by simpa using c1)
      have e2:=of_decide_eq_false c2;have e3:¬ cX lo hi=0:=(by simpa using c3)
      have e4:¬ cK (ev q hi)=0:=(by simpa using c4)
      have e5:¬ gY (L.map (·.1)) lo hi=0:=(by simpa using c5)
      exact aW rfl (.inr rfl) rfl (fV (by rw[kO,if_neg e1,if_neg e2,if_neg e3,if_neg e4,if_neg e5]))
end
end Vc
end Go.Proofs.YtjmbkipbmbnhjaaGreat

namespace Go.Proofs.YtjmbkipbmbnhjaaGreat
open Go.RowKit
open Dg Zn
namespace Vc
theorem aEg {a:Rat}:a.num<0 ↔ a<0:=by
 have h1:=Rat.num_nonneg (q:=a);have h2:=Rat.not_lt (a:=a) (b:=0);constructor
 ·intro h;refine Classical.byContradiction fun q=>?_;have:=h1.2 (h2.1 q);omega
 ·intro h;refine Classical.byContradiction fun q=>?_;exact h2.2 (h1.1 (by omega)) h
theorem uO (a:Rat):cK a=if a<0 then -1 else if a=0 then 0 else 1:=by
 unfold cK bB;by_cases h:a<0
 ·rw[if_pos (aEg.2 h),if_pos h]
 ·rw[if_neg (fun q=>h (aEg.1 q)),if_neg h];by_cases h0:a=0
  ·subst h0;rfl
  ·rw[if_neg h0,if_pos];have h1:¬ a.num<0:=fun q=>h (aEg.1 q);have h2:a.num≠0:=fun q=>h0 (Rat.num_eq_zero.1 q);omega
theorem aVd {a t:Rat} (ht:0<t):cK (a*t)=cK a:=by
 have h1:a*t<0 ↔ a<0:=by
  constructor
  ·intro h;refine Classical.byContradiction fun q=>?_;have:=Rat.mul_nonneg (Rat.not_lt.1 q) (Rat.le_of_lt ht);grind
  ·intro h;have:=Rat.mul_pos (a := -a) (by grind) ht;grind
 have h2:a*t=0 ↔ a=0:=by
  constructor
  ·intro h;rcases Rat.mul_eq_zero.1 h with q | q
   ·exact q
   ·grind
  ·intro h;rw[h,Rat.zero_mul]
 rw[uO,uO];simp only[h1,h2]
theorem aWc {l l':List (List Rat)} {x x':Rat} (h:(l.map fun p=>cK (ev p x))=l'.map fun p=>cK (ev p x')):bM x l=bM x' l':=by
 rw[aKg,aKg,aBh,aBh];have:nK x l=nK x' l':=by unfold nK; rw[h]
 rw[this]
theorem aKh {M X:Nat} {L:List (List Rat × Rat)} (hL:∀ z∈L,yI M X z) (x:Rat):bM x (L.map (·.1))=bM x (L.map fun z=>aI z.1 z.2):=by
 refine aWc ?_;rw[List.map_map,List.map_map];refine List.map_congr_left fun z hz=>?_;show cK (ev z.1 x)=cK (ev (aI z.1 z.2) x);rw[bH,aVd (hL z hz).pos]
theorem aUg {M X:Nat} {L:List (List Rat × Rat)} (hL:∀ z∈L,yI M X z) (lo hi:Rat):gY (L.map (·.1)) lo hi=gY (L.map fun z=>aI z.1 z.2) lo hi:=by
 unfold gY;rw[aKh hL,aKh hL]
end Vc
end Go.Proofs.YtjmbkipbmbnhjaaGreat

namespace Go.Proofs.YtjmbkipbmbnhjaaGreat
open Go.RowKit
open Go.Lib (hid)
open Dg Zn
namespace Vc
/-! What aBp answers,told without reckoning. -/
def dQ (p F:List Rat):Prop:=aJ F=F/\F≠[]/\aK F=1/\∃ G,aJ G=G/\G≠[]/\aK G=1/\dA p (bO p) G/\∃ c:Rat,c≠0/\∀ x,ev p x=c*ev F x*ev G x
theorem dQ.unique {p F F':List Rat} (h:dQ p F) (h':dQ p F'):F=F':=by
 obtain⟨t,n,l,G,tG,nG,lG,hG,c,hc,he⟩:=h;obtain⟨t',n',l',G',tG',nG',lG',hG',c',hc',he'⟩:=h';obtain rfl:=aQd hG hG' tG tG' nG (lG.trans lG'.symm);have h1:∀ x,ev (aI F c) x=ev (aI F' c') x:=xL (g:=G) (by rw[tG]; exact nG) fun x=>by
  rw[bH,bH];have:=he x;have:=he' x;grind
 have hi:=Rat.mul_inv_cancel c hc;have hi':=Rat.mul_inv_cancel c' hc';have h2:∀ x,ev F x=(c'*c⁻¹)*ev F' x:=fun x=>by
  have:=h1 x;rw[bH,bH] at this;grind
 have hne:c'*c⁻¹≠0:=by
  intro e;have:c'*(c*c⁻¹)=0:=by rw[Rat.mul_comm c,<- Rat.mul_assoc,e,Rat.zero_mul]
  rw[hi,Rat.mul_one] at this;exact hc' this
 have:=aQb t t' n hne h2;rwa[aCg t l,aCg t' l'] at this
theorem dQ.scale {p F:List Rat} (h:dQ p F) {f:Rat} (hf:f≠0):dQ (aI p f) F:=by
 obtain⟨t,n,l,G,tG,nG,lG,hG,c,hc,he⟩:=h;have hi:=Rat.mul_inv_cancel f hf;have hn:f⁻¹≠0:=fun e=>by rw[e,Rat.mul_zero] at hi; exact absurd hi (by decide)
 refine⟨t,n,l,G,tG,nG,lG,(hG.left hn fun x=>?_).right hn fun x=>?_,c*f,fun e=>?_,fun x=>?_⟩
 ·rw[bH]; grind
 ·rw[fA,fA,wE]; grind
 ·rcases Rat.mul_eq_zero.1 e with h | h
  ·exact hc h
  ·exact hf h
 ·rw[bH,he]; grind
theorem aNr:∀ l:List Rat,∃ m:Int,m≠0/\∃ e,Cm m l e
 | []=>⟨1,by decide,0,fun k=>⟨0,by rw[dI (Nat.zero_le _),Rat.zero_mul]; rfl,Nat.zero_le _⟩⟩
 | a::l=>by
  obtain⟨m,hm,e,h⟩:=aNr l;have hd:((a.den:Nat):Int)≠0:=by have:=a.den_pos; omega
  have ha:a*((a.den:Int):Rat)=(a.num:Rat):=by
   have h1:=Rat.num_divInt_den a;rw[Rat.divInt_eq_div,Rat.div_def] at h1;have h2:=Rat.mul_inv_cancel _ (nA hd);have h3:(a.num:Rat)*((a.den:Int):Rat)⁻¹*((a.den:Int):Rat)=(a.num:Rat):=by grind
   rw[h1] at h3;exact h3
  refine⟨m*a.den,Int.mul_ne_zero hm hd,max (e+a.den) (a.num*m).natAbs,fun k=>?_⟩;cases k with
  | zero =>
   refine⟨a.num*m,?_,Nat.le_trans (Nat.le_of_lt Nat.lt_two_pow_self) (eO (Nat.le_max_right _ _))⟩;show a*_=_;rw[Rat.intCast_mul,Rat.intCast_mul,<- ha]; grind
  | succ k =>
   obtain⟨z,z1,z2⟩:=h k;refine⟨z*a.den,?_,?_⟩
   ·show l.getD k 0*_=_;rw[Rat.intCast_mul,Rat.intCast_mul,<- z1]; grind
   ·rw[Int.natAbs_mul,Int.natAbs_natCast];refine Nat.le_trans (Nat.mul_le_mul z2 (Nat.le_of_lt Nat.lt_two_pow_self)) ?_;rw[<- Nat.pow_add];exact eO (Nat.le_max_left _ _)
theorem aNs (l:List Rat):∃ c,Cb l c:=by
 obtain⟨m,hm,e,h⟩:=aNr l;exact⟨max e m.natAbs,m,hm,Nat.le_trans (Nat.le_of_lt Nat.lt_two_pow_self) (eO (Nat.le_max_right _ _)),h.mono (Nat.le_max_left _ _)⟩
theorem aAw {p q:List Rat} (tp:aJ p=p) (tq:aJ q=q) (h0:p≠[]\/q≠[]):∃ G,aJ G=G/\G≠[]/\aK G=1/\dA p q G:=by
 obtain⟨c,hc⟩:=aNs p;obtain⟨d,hd⟩:=aNs q;obtain⟨M,hM⟩:∃ M,M=max p.length q.length:=⟨_,rfl⟩
 obtain⟨X,hX⟩:∃ X,X=vC p q c d*5^M:=⟨_,rfl⟩
 obtain⟨G,e,_,g2,g3,g4,g5,_⟩:=aIf (B:=X+c+d+1) (M:=M) (Q:=vC p q c d) (by omega) tp tq h0 (by omega) (by omega) hc hd (by omega) (by omega) (Nat.le_refl _) (by
  rw[<- hX];have h1:1<=2^(M-1):=Nat.one_le_two_pow;have h2:1*(29*(X+c+d+1))<=5*5*2^(M-1)*(29*(X+c+d+1)):=Nat.mul_le_mul_right _ (by omega);omega)
 exact⟨G,g3,g2,g4,g5⟩
theorem xE {p q:List Rat} (tp:aJ p=p) (tq:aJ q=q) (p0:p≠[]) (q0:q≠[]):aT p q≠[]:=by
 obtain⟨m1,_⟩:=qF tp tq p0 q0;intro e;rw[e,List.length_nil] at m1;have:=List.length_pos_iff.2 p0;have:=List.length_pos_iff.2 q0;omega
theorem aCz {q:List Rat} (tq:aJ q=q) (q0:q≠[]):∃ a:Rat,a≠0/\(∀ x,ev q x=a*ev (cL q) x)/\∀ x,ev (cL q) x=a⁻¹*ev q x:=by
 obtain⟨_,_,_,a,ha,h⟩:=rB tq q0;have hi:=Rat.mul_inv_cancel a ha;have hn:a⁻¹≠0:=fun e=>by rw[e,Rat.mul_zero] at hi; exact absurd hi (by decide)
 refine⟨a⁻¹,hn,fun x=>by rw[h]; grind,fun x=>?_⟩;have h2:=Rat.mul_inv_cancel _ hn;rw[h]; grind
theorem dQ.of {p F G:List Rat} (t:aJ F=F) (n:F≠[]) (l:aK F=1) (tG:aJ G=G) (G0:G≠[]) (hG:dA p (bO p) G) {c:Rat} (hc:c≠0) (h:∀ x,ev p x=c*ev F x*ev G x):dQ p F:=by
 obtain⟨m1,m2,m3,_⟩:=rB tG G0;obtain⟨a,ha,h1,h2⟩:=aCz tG G0;have hi:=Rat.mul_inv_cancel a ha;have hn:a⁻¹≠0:=fun e=>by rw[e,Rat.mul_zero] at hi; exact absurd hi (by decide)
 refine⟨t,n,l,cL G,m1,fun e=>by rw[e,List.length_nil] at m2; exact G0 (List.eq_nil_of_length_eq_zero m2.symm),m3,hG.res hn h2,c*a,fun e=>(Rat.mul_eq_zero.1 e).elim hc ha,fun x=>?_⟩;rw[h,h1]; grind
theorem dQ.square {p F:List Rat} (tp:aJ p=p) (p0:p≠[]) (h:dQ p F):dQ (aT p p) F:=by
 obtain⟨t,n,l,G,tG,nG,lG,hG,c,hc,he⟩:=h;refine dQ.of (G:=aT p G) t n l (cC _) (xE tp tG p0 nG) (aQe hG) hc fun x=>?_;rw[bZ,bZ,he]; grind
theorem dQ.sep {p F:List Rat} (h:dQ p F):dA F (bO F) [1]:=by
 obtain⟨t,n,l,G,tG,nG,lG,hG,c,hc,he⟩:=h;obtain⟨H,tH,H0,lH,hH⟩:=aAw (cC (aI F c)) (cC (bO (aI F c))) (.inl (by
  intro e;exact rN t n hc (by rw[<- e]; exact(cC _).symm)))
 have hs:aJ (aI F c)=aI F c:=cC _;have hs2:aJ (bO (aI F c))=bO (aI F c):=cC _;rw[hs,hs2] at hH;have hone:=aRv (f:=aI F c) hG tG nG (fun x=>by rw[bH,he]; grind) tH H0 hH lH;subst hone;have hi:=Rat.mul_inv_cancel c hc;refine(dA.left hc (fun x=>?_) hH).right hc fun x=>?_
 ·rw[bH,Rat.mul_comm]
 ·rw[fA,fA,wE,Rat.mul_comm]
theorem aCt {H:List Rat} (H0:H≠[]) (l:aK H=1) (h:H.length<2):H=[1]:=by
 have h1:H.length=1:=by have:=List.length_pos_iff.2 H0; omega
 obtain⟨c,rfl⟩:=List.length_eq_one_iff.1 h1;have:c=1:=l;rw[this]
theorem aNk {h:List Rat} (th:aJ h=h) (h2:2<=h.length) (k:Nat):aJ (pL h k)≠[]:=by
 obtain⟨t1,t2⟩:=aAt th h2 k;rw[t1];intro e;rw[e,List.length_nil] at t2;omega
section
variable {F G D:List Rat} {c:Rat} (hc:c≠0) (hD:∀ x,c*(ev F x*bC G x)=ev G x*(ev D x-c*bC F x))
include hc hD
theorem aNw {h F1 K1 a b:List Rat} (th:aJ h=h) (h2:2<=h.length) (hF:∀ x,ev F x=ev F1 x*ev h x) (hK:∀ x,2*ev D x-c*bC F x=ev K1 x*ev h x) (hab:∀ x,(1:Rat)=ev a x*ev F x+ev b x*bC F x):∀ k,Dv (pL h k) G
 | 0=>⟨G,fun x=>by show _=_*((1:Rat)+x*0); grind⟩
 | k+1=>by
  obtain⟨Gk,hk⟩:=aNw th h2 hF hK hab k;have h3:∀ x,bC G x=bC Gk x*ev (pL h k) x+ev Gk x*bC (pL h k) x:=mW hk;have h4:∀ x,bC F x=bC F1 x*ev h x+ev F1 x*bC h x:=mW hF;have e1:∀ x,ev (eI (aI (aT (aT F1 h) (bO Gk)) c) (aI (aT (aT F1 Gk) (bO h)) (c*(k:Rat)))) x=ev (aT Gk (fC D (aI (bO F) c))) x:=xL (aNk th h2 k) fun x=>by
   simp only[fM,bZ,bH,jR,fA];have e4:=aAz h x k;have e5:=hD x;rw[h3,hk,hF] at e5;have e6:ev F1 x*ev Gk x*(ev h x*bC (pL h k) x)=ev F1 x*ev Gk x*((k:Rat)*ev (pL h k) x*bC h x):=by rw[e4]
   grind
  have hk0:(2*(k:Rat)+1)*c≠0:=by
   intro e;rcases Rat.mul_eq_zero.1 e with h | h
   ·have:(((2*k+1:Nat):Int):Rat)=((0:Int):Rat):=by
     rw[Rat.intCast_natCast]; simp; exact h
    have:=Rat.intCast_inj.1 this;omega
   ·exact hc h
  have hi:=Rat.mul_inv_cancel _ hk0;obtain⟨i,hiv⟩:∃ i,i=((2*(k:Rat)+1)*c)⁻¹:=⟨_,rfl⟩
  rw[<- hiv] at hi;obtain⟨Y,hY⟩:∃ Y,Y=aI (eI (fC (aT Gk K1) (aI (aT F1 (bO Gk)) (2*c))) (aI (aT Gk (bO F1)) (2*c*(k:Rat)))) i:=⟨_,rfl⟩
  have e2:∀ x,ev Gk x*bC F x=ev h x*ev Y x:=fun x=>by
   have e3:=e1 x;simp only[fM,bZ,bH,jR,fA] at e3;have e5:=hK x;have e6:=h4 x;rw[hY];simp only[fM,bZ,bH,jR,fA];have e7:((2*(k:Rat)+1)*c)*(ev Gk x*bC F x)=ev h x*(ev Gk x*ev K1 x-ev F1 x*bC Gk x*(2*c)+ev Gk x*bC F1 x*(2*c*(k:Rat))):=by
    have e8:ev F1 x*bC h x=bC F x-bC F1 x*ev h x:=by grind
    have e9:ev F1 x*ev Gk x*bC h x*(c*(k:Rat))=ev Gk x*(bC F x-bC F1 x*ev h x)*(c*(k:Rat)):=by rw[<- e8]; grind
    grind
   grind
  refine⟨eI (aT a (aT F1 Gk)) (aT b Y),fun x=>?_⟩;have e3:=hab x;have e4:=e2 x;have e5:ev Gk x=ev Gk x*(ev a x*ev F x+ev b x*bC F x):=by rw[<- e3,Rat.mul_one]
  show _=_*ev (aT (pL h k) h) x;rw[hk,fM,bZ,bZ,bZ,bZ];have e6:ev Gk x=(ev a x*(ev F1 x*ev Gk x)+ev b x*ev Y x)*ev h x:=by
   rw[hF] at e5;grind
  rw[e6];grind
theorem aNv {r W a b d e:List Rat} (tr:aJ r=r) (r2:2<=r.length) (hr:∀ x,ev G x=ev W x*ev r x) (hab:∀ x,(1:Rat)=ev a x*ev r x+ev b x*ev F x) (hde:∀ x,(1:Rat)=ev d x*ev r x+ev e x*bC r x):∀ k,Dv (pL r (k+1)) G
 | 0=>⟨W,fun x=>by show _=_*ev (aT [1] r) x; rw[bZ,hr]; show _=_*(((1:Rat)+x*0)*_); grind⟩
 | k+1=>by
  obtain⟨Gk,hk⟩:=aNv tr r2 hr hab hde k;have h3:∀ x,bC G x=bC Gk x*ev (pL r (k+1)) x+ev Gk x*bC (pL r (k+1)) x:=mW hk;obtain⟨n,hn⟩:∃ n:Rat,n=((k+1:Nat):Rat):=⟨_,rfl⟩
  have e1:∀ x,ev (aI (aT (aT F Gk) (bO r)) (c*n)) x=ev (aT r (fC (aT Gk (fC D (aI (bO F) c))) (aI (aT F (bO Gk)) c))) x:=xL (aNk tr r2 (k+1)) fun x=>by
   simp only[fM,bZ,bH,jR,fA];have e4:=aAz r x (k+1);have e5:=hD x;rw[h3,hk] at e5;rw[<- hn] at e4;generalize ev (pL r (k+1)) x=P at *;generalize bC (pL r (k+1)) x=P' at *;have e6:ev F x*ev Gk x*(ev r x*P')=ev F x*ev Gk x*(n*P*bC r x):=by rw[e4]
   grind
  have hk0:c*n≠0:=by
   intro h;rcases Rat.mul_eq_zero.1 h with h | h
   ·exact hc h
   ·rw[hn] at h;have:(((k+1:Nat):Int):Rat)=((0:Int):Rat):=by
     rw[Rat.intCast_natCast]; exact h
    have:=Rat.intCast_inj.1 this;omega
  have hi:=Rat.mul_inv_cancel _ hk0;obtain⟨i,hiv⟩:∃ i,i=(c*n)⁻¹:=⟨_,rfl⟩
  rw[<- hiv] at hi;obtain⟨Y,hY⟩:∃ Y,Y=aI (fC (aT Gk (fC D (aI (bO F) c))) (aI (aT F (bO Gk)) c)) i:=⟨_,rfl⟩
  have e2:∀ x,ev F x*ev Gk x*bC r x=ev r x*ev Y x:=fun x=>by
   have e3:=e1 x;rw[hY];simp only[fM,bZ,bH,jR,fA] at e3 |-;grind
  refine⟨eI (eI (aT Gk (aT a (eI (aT d r) (aT e (bO r))))) (aT Gk (aT (aT b F) d))) (aT (aT b e) Y),fun x=>?_⟩;have e3:=hab x;have e4:=hde x;have e5:=e2 x;show _=_*ev (aT (pL r (k+1)) r) x;rw[hk];simp only[fM,bZ,fA];have e6:ev Gk x=(ev Gk x*(ev a x*(ev d x*ev r x+ev e x*bC r x))+ev Gk x*(ev b x*ev F x*ev d x)+ev b x*ev e x*ev Y x)*ev r x:=by
   have e7:ev Gk x=ev Gk x*((ev a x*ev r x+ev b x*ev F x)*(ev d x*ev r x+ev e x*bC r x)):=by rw[<- e3,<- e4,Rat.mul_one,Rat.mul_one]
   have e8:ev b x*ev e x*(ev F x*ev Gk x*bC r x)=ev b x*ev e x*(ev r x*ev Y x):=by rw[e5]
   grind
  generalize ev Gk x*(ev a x*(ev d x*ev r x+ev e x*bC r x))+ev Gk x*(ev b x*ev F x*ev d x)+ev b x*ev e x*ev Y x=Z at e6 |-;rw[e6];grind
end
theorem qO (x:Rat):ev [(1:Rat)] x=1:=by show (1:Rat)+x*0=1; grind
theorem aEt {p q:List Rat} (h:dA p q [1]):∃ a b:List Rat,∀ x,(1:Rat)=ev a x*ev p x+ev b x*ev q x:=by
 obtain⟨_,_,a,b,h⟩:=h;exact⟨a,b,fun x=>by rw[<- h,qO]⟩
theorem dQ.parts {w F:List Rat} (h:dQ w F):∃ (G D:List Rat) (c:Rat),c≠0/\aJ G=G/\G≠[]/\(∀ x,ev w x=c*ev F x*ev G x)/\(∀ x,bC w x=ev D x*ev G x)/\∀ x,c*(ev F x*bC G x)=ev G x*(ev D x-c*bC F x):=by
 obtain⟨t,n,l,G,tG,nG,lG,hG,c,hc,he⟩:=h;obtain⟨_,⟨D,hD⟩,_⟩:=hG;have hD':∀ x,bC w x=ev D x*ev G x:=fun x=>by rw[<- fA,hD]
 refine⟨G,D,c,hc,tG,nG,he,hD',fun x=>?_⟩;have h1:bC w x=bC (aI F c) x*ev G x+ev (aI F c) x*bC G x:=mW (fun y=>by rw[bH,he]; grind) x;rw[hD',wE,bH] at h1;grind
theorem aI9 {h G:List Rat} (th:aJ h=h) (h2:2<=h.length) (tG:aJ G=G) (G0:G≠[]) {k:Nat} (hk:G.length<=k) (hd:Dv (pL h k) G):False:=by
 obtain⟨t1,t2⟩:=aAt th h2 k;have:=(mK t1 tG G0 hd).2.1;omega
theorem dQ.less {w F V:List Rat} (h:dQ w F) (hV:∀ x,ev w x=ev V x*ev F x):dQ (aT w V) F:=by
 obtain⟨a,b,hab⟩:=aEt h.sep;obtain⟨G,D,c,hc,tG,nG,he,hD',hD⟩:=h.parts;obtain⟨t,n,l,_⟩:=h;have hVc:∀ x,ev V x=ev (aI G c) x:=xL (g:=F) (by rw[t]; exact n) fun x=>by
  rw[<- hV,he,bH]; grind
 have hV':∀ x,bC V x=bC G x*c:=fun x=>by rw[qP hVc,wE]
 obtain⟨K,hK⟩:∃ K,K=fC (aI D 2) (aI (bO F) c):=⟨_,rfl⟩
 have tK:aJ K=K:=by rw[hK]; exact cC _
 have eK:∀ x,ev K x=2*ev D x-c*bC F x:=fun x=>by rw[hK,jR,bH,bH,fA]; grind
 obtain⟨H,tH,H0,lH,hH⟩:=aAw t tK (.inl n);have hone:H=[1]:=by
  rcases Nat.lt_or_ge H.length 2 with h2 | h2
  ·exact aCt H0 lH h2
  ·obtain⟨⟨F1,hF1⟩,⟨K1,hK1⟩,_⟩:=hH;exact(aI9 tH h2 tG nG (Nat.le_refl _) (aNw hc hD tH h2 hF1 (fun x=>by rw[<- eK]; exact hK1 x) (fun x=>by rw[<- fA]; exact hab x) G.length)).elim
 rw[hone] at hH;obtain⟨a2,b2,hb2⟩:=aEt hH;have e1:∀ x,ev (aT w V) x=c*c*ev F x*(ev G x*ev G x):=fun x=>by
  rw[bZ,he,hVc,bH]; grind
 have e2:∀ x,ev (bO (aT w V)) x=c*ev K x*(ev G x*ev G x):=fun x=>by
  rw[fA,mW (bZ w V),hD',he,hVc,hV',bH,eK];have:=hD x;grind
 have hi:=Rat.mul_inv_cancel c hc;have hcc:c*c≠0:=fun e=>(Rat.mul_eq_zero.1 e).elim hc hc;refine dQ.of (G:=aT G G) (c:=c*c) t n l (cC _) (xE tG tG nG nG) ⟨⟨aI F (c*c),fun x=>?_⟩,⟨aI K c,fun x=>?_⟩,aI a2 (c⁻¹*c⁻¹),aI b2 c⁻¹,fun x=>?_⟩ hcc fun x=>?_
 ·rw[e1,bH,bZ]; grind
 ·rw[e2,bH,bZ]; grind
 ·rw[e1,e2,bZ,bH,bH];have h1:=hb2 x;have h2:ev G x*ev G x=ev G x*ev G x*(ev a2 x*ev F x+ev b2 x*ev K x):=by rw[<- h1,Rat.mul_one]
  have h3:ev a2 x*(c⁻¹*c⁻¹)*(c*c*ev F x*(ev G x*ev G x))=ev a2 x*ev F x*(ev G x*ev G x)*((c*c⁻¹)*(c*c⁻¹)):=by grind
  have h4:ev b2 x*c⁻¹*(c*ev K x*(ev G x*ev G x))=ev b2 x*ev K x*(ev G x*ev G x)*(c*c⁻¹):=by grind
  rw[h3,h4,hi];grind
 ·rw[e1,bZ]
theorem aWz {w F S:List Rat} (h:dQ w F) (tS:aJ S=S) (S0:S≠[]) (sep:dA S (bO S) [1]) (hS:Dv S w):Dv S F:=by
 obtain⟨G,D,c,hc,tG,nG,he,hD',hD⟩:=h.parts;obtain⟨t,n,l,_⟩:=h;obtain⟨g,tg,g0,lg,hg⟩:=aAw tS t (.inl S0);obtain⟨⟨r0,hr0⟩,⟨v,hv⟩,a0,b0,hab0⟩:=hg;obtain⟨r,hrr⟩:∃ r,r=aJ r0:=⟨_,rfl⟩
 have tr:aJ r=r:=by rw[hrr]; exact cC _
 have hr:∀ x,ev S x=ev r x*ev g x:=fun x=>by rw[hrr,jQ,hr0]
 have rne:r≠[]:=by
  rintro rfl;exact rV tS S0 (pN fun x=>by rw[hr,ev,Rat.zero_mul])
 rcases Nat.lt_or_ge r.length 2 with h2 | h2
 ·have h1:r.length=1:=by have:=List.length_pos_iff.2 rne; omega
  obtain⟨z,rfl⟩:=List.length_eq_one_iff.1 h1;have hz:z≠0:=by
   have:=eC tr rne;exact this
  have hi:=Rat.mul_inv_cancel z hz;refine⟨aI v z⁻¹,fun x=>?_⟩;have e:ev [z] x=z:=by show z+x*0=z; grind
  rw[hv,bH,hr,e];have:ev v x*z⁻¹*(z*ev g x)=ev v x*ev g x*(z*z⁻¹):=by grind
  rw[this,hi,Rat.mul_one]
 ·exfalso;obtain⟨u,v2,huv⟩:=aEt sep;obtain⟨w1,hw1⟩:=hS;have hS':∀ x,ev (bO S) x=bC r x*ev g x+ev r x*bC g x:=fun x=>by rw[fA]; exact mW hr x
  have hi:=Rat.mul_inv_cancel c hc;have hde:∀ x,(1:Rat)=ev (eI (aT u g) (aT v2 (bO g))) x*ev r x+ev (aT v2 g) x*bC r x:=fun x=>by
   have h1:=huv x;rw[hS',hr] at h1;simp only[fM,bZ,fA];grind
  obtain⟨A,hA⟩:∃ A,A=eI (aT u r) (aT v2 (bO r)):=⟨_,rfl⟩
  have eA:∀ x,ev A x=ev u x*ev r x+ev v2 x*bC r x:=fun x=>by rw[hA,fM,bZ,bZ,fA]
  obtain⟨a,ha⟩:∃ a,a=eI (aT (aT a0 g) A) (aT v2 (bO g)):=⟨_,rfl⟩
  obtain⟨b,hb⟩:∃ b,b=aT b0 A:=⟨_,rfl⟩
  have hab:∀ x,(1:Rat)=ev a x*ev r x+ev b x*ev F x:=fun x=>by
   have h1:=huv x;rw[hS',hr] at h1;have h3:=hab0 x;rw[hr] at h3;rw[ha,hb,fM,bZ,bZ,bZ,bZ,fA];have h4:(1:Rat)=ev g x*ev A x+ev r x*(ev v2 x*bC g x):=by rw[eA]; grind
   have h5:ev g x*ev A x=(ev a0 x*(ev r x*ev g x)+ev b0 x*ev F x)*ev A x:=by rw[<- h3]
   rw[h5] at h4;grind
  have hG:∀ x,ev G x=ev (eI (aT G a) (aI (aT b (aT g w1)) c⁻¹)) x*ev r x:=fun x=>by
   have h1:=hab x;have h3:=he x;rw[hw1,hr] at h3;rw[fM,bZ,bH,bZ,bZ];have h4:ev G x=ev G x*(ev a x*ev r x+ev b x*ev F x):=by rw[<- h1,Rat.mul_one]
   have h5:ev b x*(ev g x*ev w1 x)*c⁻¹*ev r x=ev b x*(c*ev F x*ev G x)*c⁻¹:=by rw[<- h3]; grind
   have h6:ev b x*(c*ev F x*ev G x)*c⁻¹=ev b x*ev F x*ev G x*(c*c⁻¹):=by grind
   rw[h6,hi] at h5;grind
  exact aI9 tr h2 tG nG (Nat.le_succ _) (aNv hc hD tr h2 hG hab hde G.length)
theorem oK {u g y:List Rat} {c d n m:Nat} (hu:Pk u c n) (hg:Pk g d m) (g0:g≠[]) (ty:aJ y=y) (h:∀ x,ev u x=ev y x*ev g x) (B:Nat) (hB:20000<=B) (hc:c+(n+1)*(d+1)+d<=580000):dX B u g=some (y,[]):=by
 have hl:=hu.len;obtain⟨U,R,e,tU,tR,hR,_,hev,_,_⟩:=aC2 (B:=B) (by omega) hu.tr hg.tr g0 hu.cb hg.cb (by
  unfold oL;have:(u.length+1-g.length)*(d+1)<=(n+1)*(d+1):=Nat.mul_le_mul_right _ (by omega);omega)
 have hr:=aQg hg.tr tR ⟨y,h⟩ hev hR;subst hr;have hU:U=y:=iD tU ty (xL (g:=g) (by rw[hg.tr]; exact g0) fun x=>by
  rw[<- h,hev,ev]; grind)
 rw[e,hU]
theorem sJ {u F:List Rat} {c n M:Nat} (hu:Pk u c n) (h0:u≠[]) (hM:n<=M) (hn:n<=11) (hc2:4<=c) (hc:c<=1100) (B:Nat) (hB:20000<=B) (hZ:(7*c+27)*5^M<=5*5*2^(M-1)*(29*B)) (hF:dQ u F):jA B u=some F:=by
 have hd:=hu.derive 4 (by omega);have hpos:=List.length_pos_iff.2 h0;have h1:=hu.len;have h2:=hd.len;have hdl:=vS u;have hQ:vC u (bO u) c (c+4)<=7*c+27:=by
  unfold vC;rw[if_pos (by omega)];omega
 obtain⟨G,e,g1,g2,g3,g4,g5,_,_,_⟩:=aIf (B:=B) (M:=M) (Q:=7*c+27) (by omega) hu.tr hd.tr (.inl h0) (by omega) (by omega) hu.cb hd.cb (by omega) (by omega) hQ hZ;have h16:2^4<=2^c:=eO hc2;have hG:=uP hu h0 (by omega) g3 g4 g5.1;have hk:xW c n<=26000:=by
  unfold xW;have:=Nat.mul_le_mul (show n<=11 from hn) (show c+3<=1103 by omega);have:=Nat.mul_le_mul (show n<=11 from hn) (show c+4<=1104 by omega);omega
 have hG2:=hG.mono hk (Nat.le_refl _);obtain⟨y,hy⟩:=g5.1;have hy2:∀ x,ev u x=ev (aJ y) x*ev G x:=fun x=>by rw[jQ,hy]
 have hb:c+(n+1)*(26000+1)+26000<=580000:=by
  have:=Nat.mul_le_mul (show n+1<=12 by omega) (show 26000+1<=26001 by omega);omega
 have hdiv:=oK hu hG2 g2 (cC y) hy2 B hB hb;obtain⟨U,hU⟩:∃ U,U=aJ y:=⟨_,rfl⟩
 have tU:aJ U=U:=by rw[hU]; exact cC _
 rw[<- hU] at hy2 hdiv;have hU0:U≠[]:=by
  intro e;exact rV hu.tr h0 (pN fun x=>by rw[hy2,e,ev,Rat.zero_mul])
 obtain⟨m1,m2,m3,_⟩:=rB tU hU0;obtain⟨a,ha,ea,_⟩:=aCz tU hU0;have hF0:cL U≠[]:=fun e=>by rw[e,List.length_nil] at m2; exact hU0 (List.eq_nil_of_length_eq_zero m2.symm)
 have hI:dQ u (cL U):=⟨m1,hF0,m3,G,g3,g2,g4,g5,a,ha,fun x=>by rw[hy2,ea]⟩
 have hdv:Dv U u:=⟨G,fun x=>by rw[hy2,Rat.mul_comm]⟩
 have hlen:=(mK tU hu.tr h0 hdv).2.1;have hGl:=hG2.len;have hcm:Cb (cL U) 26000:=(aDv hu.tr h0 hu.cb h1 (by omega) tU hdv).mono hk;have hs:aD (cL U) B=true:=hcm.sz (by omega) (by omega);have hsd:aD (bO u) B=true:=hd.sz (by omega) (by omega);unfold jA;rw[if_pos hsd,g1];show (dX B u G).bind _=_;rw[hdiv];show (if _ then some _ else none)=_;rw[decide_eq_true (show G.length<=1000000 by omega),decide_eq_true (show U.length<=1000000 by omega),hs];show some (cL U)=_;rw[hI.unique hF]
theorem xI {u:List Rat} (tu:aJ u=u) (h0:u≠[]):∃ F,dQ u F:=by
 obtain⟨G,tG,G0,lG,hG⟩:=aAw tu (cC _:aJ (bO u)=bO u) (.inl h0);obtain⟨y,hy⟩:=hG.1;have hy2:∀ x,ev u x=ev (aJ y) x*ev G x:=fun x=>by rw[jQ,hy]
 have hU0:aJ y≠[]:=by
  intro e;exact rV tu h0 (pN fun x=>by rw[hy2,e,ev,Rat.zero_mul])
 obtain⟨m1,m2,m3,_⟩:=rB (cC y) hU0;obtain⟨a,ha,ea,_⟩:=aCz (cC y) hU0;exact⟨cL (aJ y),m1,fun e=>by rw[e,List.length_nil] at m2; exact hU0 (List.eq_nil_of_length_eq_zero m2.symm),m3,G,tG,G0,lG,hG,a,ha,fun x=>by rw[hy2,ea]⟩
set_option maxRecDepth 100000
theorem aC6 {f:Nat->Nat} {x:AV Dm} (h:(x.ptrs.all fun b=>Nat.beq (f b) b)=true):(XV.av x).leR f (.av x):=fun _ _ _ _ hv=>hv.go (Goes.refl _ _) fun b hb=>by rw[Nat.eq_of_beq_eq_true (List.all_eq_true.1 h b hb)]
abbrev ptB (q:List Rat) (B:Nat):Sg Dm:=[(.b 500,.blk 24 [(none,PL q B)])]
theorem aJp (q F Q R:List Rat) (B:Nat) (hB:B<=300000) (hq:q.length<=1000000) (h1:jA B q=some F) (hF:F.length<=1000000) (h2:dX B q F=some (Q,R)):yD Tryz.prog 133 [(.ptr 500 0:SA Dm)] (ptB q B) (.one (PL F B)) (ptB Q B) []:=by
 refine yD.of (n:=12) (by exact List.cons_ne_nil _ _) Tryz.func133 rfl rfl rfl rfl rfl rfl rfl rfl fun cx ρ0 hNI hW hBw=>?_;refine sr rfl ?_;refine xn ?_;refine RV.done (sr rfl ?_);refine p1 (aG cR) ?_;refine p1 (aJs (hne:=List.cons_ne_nil _ _) hNI hW hBw rfl rfl (aC7 q F B hB hq h1) rfl rfl bd Tryz.func94 rfl rfl (xa rfl) rfl rfl) ?_;refine xn ?_;refine RV.done (sr rfl ?_);refine p1 (aG cR) ?_;refine xm ?_;refine p1 (aJs (hne:=List.cons_ne_nil _ _) hNI hW hBw rfl rfl (zW q F B hB hq hF h2) rfl rfl bd Tryz.func134 rfl rfl (xb rfl rfl) rfl rfl) ?_;refine xm ?_;refine p1 (dE) ?_;refine p1 (dE) ?_;refine p1 (aP (cR).2) ?_;refine RV.done (sr rfl ?_);refine xm ?_;refine xn ?_;refine RV.done ?_;refine CV.ret ?_;exact aXy rfl (.inr rfl) rfl ⟨rfl,trivial⟩ (fun _=>rfl) rfl cH
def mO (p q:List Rat):Bool:=decide (0<q.length)&&(decide (p.length<=1000)&&(decide (q.length<=1000)&&(decide (min p.length q.length<=7)&&(aD p 400&&(aD q 400&&aD (tab (kS p q) (p.length+q.length-1)) 400)))))
theorem aJ0 {p q:List Rat} (B:Nat) (h:mO p q=true) (hz:aD (aT p q) B=true):aC Tryz.prog 33 [PL p B,PL q B] (.one (PL (aT p q) B)):=by
 simp only[mO,Bool.and_eq_true,decide_eq_true_eq] at h;obtain⟨h1,h2,h3,h4,h5,h6,h7⟩:=h;exact(aKu p q 400 7 400 h1 (by omega) (by omega) (by decide) h4 (by decide) h7).mono (fun L ρ w vs hv=>match vs,hv with
  | [_,_],⟨a,b,c⟩=>⟨bI h5 L ρ w _ a,bI h6 L ρ w _ b,c⟩) (bI hz)
def fX (B:Nat):Nat->List Rat->List Rat->Option (List Rat)
 | 0,_,_=>none
 | n+1,q,o=>if q.length<=1 then (if mO o q&&aD (aT o q) B then some (aT o q) else none) else
  (jA B q).bind fun F=>(dX B q F).bind fun x=>(jA B x.1).bind fun G=>(dX B x.1 G).bind fun y=>(dX B F G).bind fun z =>
   if decide (F.length<=1000000)&&(decide (x.1.length<=1000000)&&(decide (G.length<=1000000)&&(decide (y.1.length<=1000000)&&(mO o z.1&&aD (aT o z.1) B)))) then fX B n y.1 (aT o z.1) else none
theorem aTs {B n:Nat} {q o r:List Rat} (h:fX B (n+1) q o=some r) (hq:q.length<=1):mO o q=true/\aD (aT o q) B=true/\r=aT o q:=by
 rw[fX,if_pos hq] at h;split at h
 ·rename_i hc;rw[Bool.and_eq_true] at hc;exact⟨hc.1,hc.2,(Option.some.inj h).symm⟩
 ·cases h
theorem aRu {B n:Nat} {q o r:List Rat} (h:fX B (n+1) q o=some r) (hq:¬ q.length<=1):∃ F Q R G Y R' Z R'',jA B q=some F/\dX B q F=some (Q,R)/\jA B Q=some G/\dX B Q G=some (Y,R')/\dX B F G=some (Z,R'')/\F.length<=1000000/\Q.length<=1000000/\G.length<=1000000/\Y.length<=1000000/\mO o Z=true/\aD (aT o Z) B=true/\fX B n Y (aT o Z)=some r:=by
 rw[fX,if_neg hq] at h;obtain⟨F,h1,h⟩:=Option.bind_eq_some_iff.1 h;obtain⟨⟨Q,R⟩,h2,h⟩:=Option.bind_eq_some_iff.1 h;obtain⟨G,h3,h⟩:=Option.bind_eq_some_iff.1 h;obtain⟨⟨Y,R'⟩,h4,h⟩:=Option.bind_eq_some_iff.1 h;obtain⟨⟨Z,R''⟩,h5,h⟩:=Option.bind_eq_some_iff.1 h;split at h
 ·rename_i hc;simp only[Bool.and_eq_true,decide_eq_true_eq] at hc;exact⟨F,Q,R,G,Y,R',Z,R'',h1,h2,h3,h4,h5,hc.1,hc.2.1,hc.2.2.1,hc.2.2.2.1,hc.2.2.2.2.1,hc.2.2.2.2.2,h⟩
 ·cases h
theorem aTr {B n:Nat} {q o r:List Rat} (h:fX B n q o=some r):∃ m,n=m+1:=by
 cases n with
 | zero=>cases h
 | succ m=>exact⟨m,rfl⟩
theorem aLh (p r:List Rat) (B n:Nat) (hB:B<=300000) (hB6:6<=B) (hp:p.length<=1000000) (h:fX B n p [1]=some r):aC Tryz.prog 88 [PL p B] (.one (PL r B)):=by
 refine aC.of (n:=33) Tryz.func88 rfl rfl rfl rfl rfl fun cx hfr=>?_;refine sr rfl ?_;refine xn ?_;refine RV.done (sr rfl ?_);refine xm ?_;refine p2 (aV (i:=500) zA) ?_;refine p1 (aP (cR).2) ?_;refine RV.done (sr rfl ?_);refine p1 (aTp (hne:=List.cons_ne_nil _ _) (ss:=[(.ptr 500 0:SA Dm)]) rfl rfl bd ⟨rfl,trivial⟩) ?_;refine xn ?_;refine RV.done (sr rfl ?_);refine xd rfl (pM 1 1 (by decide) (by decide) (by decide) (by decide)) Tryz.func57 (xb rfl rfl) hfr ?_;refine p1 (iH (k:=some 4) (G:=Dm.gen (cM (some 4) (bV [Rat.divInt 1 1] 6))) (dS _ _) bG sF rfl rfl rfl (by intro s hs; obtain rfl:=List.mem_singleton.1 hs; rfl) rfl rfl rfl bd (xa rfl)) ?_;refine xn ?_;refine RV.done ?_;refine CV.seq ?_;refine CV.block ?_;have h1:aD [(1:Rat)] 6=true:=(by decide +kernel)
 have e1:Rat.divInt 1 1=(1:Rat):=(by decide +kernel)
 rw[e1];refine CV.loop (X:={z:Nat × List Rat × List Rat // fX B z.1 z.2.1 z.2.2=some r/\z.2.1.length<=1000000}) (fun z=>[(.s 3,.av (.one (.ptr 500 0))),(.b 500,.blk 24 [(none,PL z.1.2.1 B)]),(.s 4,.av (.one (.lk (fnR 133 [(.ptr 500 0:SA Dm)])))),(.s 5,.av (.one (PL z.1.2.2 B)))]) (fun z=>z.1.1) ⟨(n,p,[1]),h,hp⟩ (bQ.mk ⟨aF _,aF _,aF _,aKq rfl (bI (K:=6) (lJ hB6 h1)),trivial⟩ rfl rfl) (fun z=>?_);obtain⟨⟨n,q,o⟩,hz,hql⟩:=z;simp only at hz hql |-;obtain⟨m,rfl⟩:=aTr hz;refine CV.seq ?_;refine sr rfl ?_;refine p1 (aG cR) ?_;refine xc (oW q B hql) Tryz.func51 (xa rfl) hfr ?_;refine p1 (iC) ?_;refine RV.done ?_;refine CV.cond rfl (fun hc=>?_) (fun hc=>?_)
 ·have hq1:¬ q.length<=1:=(by have:=of_decide_eq_true hc; omega)
  obtain⟨F,Q,R,G,Y,R1,Z,R2,a1,a2,a3,a4,a5,l1,l2,l3,l4,m1,m2,hz2⟩:=aRu hz hq1;refine CV.skip ?_;refine CV.block ?_;refine sr rfl ?_;refine xm ?_;refine p2 (aH6 (nw:=[]) (sas:=[]) (caps:=[(.ptr 500 0:SA Dm)]) (aJp q F Q R B hB hql a1 l1 a2) hfr rfl (cx.wf hfr) Tryz.func133 rfl rfl rfl rfl bd rfl trivial ⟨rfl,trivial⟩ trivial rfl rfl rfl rfl) ?_;refine xm ?_;refine p2 (aH6 (nw:=[]) (sas:=[]) (caps:=[(.ptr 500 0:SA Dm)]) (aJp Q G Y R1 B hB l2 a3 l3 a4) hfr rfl (cx.wf hfr) Tryz.func133 rfl rfl rfl rfl bd rfl trivial ⟨rfl,trivial⟩ trivial rfl rfl rfl rfl) ?_;refine xn ?_;refine xn ?_;refine RV.done (sr rfl ?_);refine xm ?_;refine xm ?_;refine xc (zW F G B hB l1 l3 a5) Tryz.func134 (xb rfl rfl) hfr ?_;refine xm ?_;refine p1 (dE) ?_;refine p1 (dE) ?_;refine xn ?_;refine xn ?_;refine RV.done ?_;refine CV.region rfl (fun h=>nomatch h) ?_;refine xm ?_;refine xm ?_;refine xc (aJ0 B m1 m2) Tryz.func33 (xb rfl rfl) hfr ?_;refine xn ?_;refine RV.done ?_;exact⟨⟨(m,Y,aT o Z),hz2,l4⟩,bQ.mk ⟨aF _,aF _,aF _,aF _,trivial⟩ rfl rfl,by show m<m+1; omega⟩
 ·refine CV.exit ?_;refine CV.seq ?_;have hq1:q.length<=1:=(by have:=of_decide_eq_false hc; omega)
  obtain⟨m1,m2,hr⟩:=aTs hz hq1;rw[hr];refine CV.region rfl (fun h=>nomatch h) ?_;refine xm ?_;refine p1 (aG cR) ?_;refine xc (aJ0 B m1 m2) Tryz.func33 (xb rfl rfl) hfr ?_;refine xn ?_;refine RV.done ?_;refine CV.ret ?_;exact aW rfl (.inr rfl) rfl cH
theorem aXe:fX 100000 6 gM [1]=some [2,1]:=by decide +kernel
structure Wd (p w:List Rat):Prop where
 tr:aJ w=w
 ne:w≠[]
 dv:Dv w p
 la:aK w=aK p
theorem Dv.trans {a b c:List Rat} (h:Dv a b) (k:Dv b c):Dv a c:=by
 obtain⟨u,hu⟩:=h;obtain⟨v,hv⟩:=k;exact⟨aT v u,fun x=>by rw[hv,hu,bZ]; grind⟩
theorem dQ.dvF {w F:List Rat} (h:dQ w F):Dv F w:=by
 obtain⟨G,D,c,hc,tG,nG,he,_,_⟩:=h.parts;exact⟨aI G c,fun x=>by rw[he,bH]; grind⟩
theorem dQ.len2 {w F:List Rat} (tw:aJ w=w) (h2:2<=w.length) (h:dQ w F):2<=F.length:=by
 rcases Nat.lt_or_ge F.length 2 with hl | hl
 ·exfalso;obtain⟨G,D,c,hc,tG,nG,he,hD,_⟩:=h.parts;obtain⟨t,n,l,_⟩:=h;obtain rfl:=aCt n l hl;have hw0:w≠[]:=fun e=>by rw[e,List.length_nil] at h2; omega
  have hi:=Rat.mul_inv_cancel c hc;have hdv:Dv w (bO w):=⟨aI D c⁻¹,fun x=>by
   rw[fA,hD,bH,he,qO];have:ev D x*c⁻¹*(c*1*ev G x)=ev D x*ev G x*(c*c⁻¹):=by grind
   rw[this,hi,Rat.mul_one]⟩
  have hne:bO w≠[]:=by
   intro e;have h3:(bO w).getD (w.length-2) 0=0:=by rw[e]; rfl
   rw[bO,oY,if_pos (by omega),show w.length-2+1=w.length-1 by omega] at h3;rcases Rat.mul_eq_zero.1 h3 with h4 | h4
   ·exact eC tw hw0 h4
   ·have:(((w.length-1:Nat):Int):Rat)=((0:Int):Rat):=by
     rw[Rat.intCast_natCast]; exact h4
    have:=Rat.intCast_inj.1 this;omega
  have td:aJ (bO w)=bO w:=cC _;have h3:=(mK tw td hne hdv).2.1;have h4:=vS w;omega
 ·exact hl
theorem Wd.quot {p w F:List Rat} (h:Wd p w) (hF:dQ w F):∃ V,Wd p V/\(∀ x,ev w x=ev V x*ev F x)/\V.length+F.length=w.length+1/\w=aT V F:=by
 obtain⟨y,hy⟩:=hF.dvF;obtain⟨t,n,l,_⟩:=hF;obtain⟨V,hV⟩:∃ V,V=aJ y:=⟨_,rfl⟩
 have tV:aJ V=V:=by rw[hV]; exact cC _
 have e:∀ x,ev w x=ev V x*ev F x:=fun x=>by rw[hV,jQ,hy]
 have V0:V≠[]:=by
  intro q;exact rV h.tr h.ne (pN fun x=>by rw[e,q,ev,Rat.zero_mul])
 have hm:w=aT V F:=(aIk h.tr e).symm;obtain⟨m1,m2⟩:=qF tV t V0 n;have hl:=List.length_pos_iff.2 n;have hl2:=List.length_pos_iff.2 V0;rw[<- hm] at m1 m2;refine⟨V,⟨tV,V0,Dv.trans ⟨F,fun x=>by rw[e,Rat.mul_comm]⟩ h.dv,?_⟩,e,by omega,hm⟩;rw[<- h.la,m2,l,Rat.mul_one]
section
variable {p:List Rat} (hp:Pk p 33 6) (p0:p≠[])
include hp p0
theorem Wd.pk {w:List Rat} (h:Wd p w):Pk w 504 w.length:=by
 have h1:=(aDv hp.tr p0 hp.cb hp.len (by decide) h.tr h.dv)
 have hl:=eC h.tr h.ne;have hi:=Rat.mul_inv_cancel _ hl;have e:w=aI (cL w) (aK w):=iD h.tr (cC _) fun x=>by
  rw[bH,cL,bH,Rat.div_def,Rat.one_mul]; grind
 refine⟨?_,h.tr,Nat.le_refl _⟩;rw[e];have:=h1.scale (by rw[h.la]; exact wO hp.cb:dH (aK w) 33);exact this
theorem pkF {w F:List Rat} (h:Wd p w) (hF:dQ w F):Pk F 471 6:=uP hp p0 (by decide) hF.1 hF.2.2.1 (Dv.trans hF.dvF h.dv)
theorem Wd.len {w:List Rat} (h:Wd p w):w.length<=6:=Nat.le_trans (mK h.tr hp.tr p0 h.dv).2.1 hp.len
end
theorem aEf {B n:Nat} {q o F x r1 G y r2 z r3:List Rat} (hq:¬ q.length<=1) (h1:jA B q=some F) (h2:dX B q F=some (x,r1)) (h3:jA B x=some G) (h4:dX B x G=some (y,r2)) (h5:dX B F G=some (z,r3)) (l1:F.length<=1000000) (l2:x.length<=1000000) (l3:G.length<=1000000) (l4:y.length<=1000000) (m1:mO o z=true) (m2:aD (aT o z) B=true):fX B (n+1) q o=fX B n y (aT o z):=by
 rw[fX,if_neg hq,h1];show (dX B q F).bind _=_;rw[h2];show (jA B x).bind _=_;rw[h3];show (dX B x G).bind _=_;rw[h4];show (dX B F G).bind _=_;rw[h5];show (if _ then _ else none)=_;rw[decide_eq_true l1,decide_eq_true l2,decide_eq_true l3,decide_eq_true l4,m1,m2];rfl
theorem aDj {B n:Nat} {q o:List Rat} (hq:q.length<=1) (m1:mO o q=true) (m2:aD (aT o q) B=true):fX B (n+1) q o=some (aT o q):=by
 rw[fX,if_pos hq,m1,m2];rfl
theorem aMn:aT [(1:Rat)] [1]=[1]:=by decide +kernel
theorem aVv:mO [(1:Rat)] [1]=true:=by decide +kernel
theorem aJe {p w F V:List Rat} (hp:Pk p 33 6) (p0:p≠[]) (h:Wd p w) (h2:2<=w.length) (hF:dQ w F) (hV:Wd p V) (e:∀ x,ev w x=ev V x*ev F x) {cw nw M1 M2:Nat} (hw:Pk w cw nw) (hn:nw<=6) (hV5:V.length<=5) (hc4:4<=cw) (hc:cw<=504) (hM1:nw+nw-1<=M1) (hM2:nw+4<=M2)
  (hZ1:(7*(cw+cw+4)+27)*5^M1<=5*5*2^(M1-1)*(29*300000)) (hZ2:(7*(cw+504+4)+27)*5^M2<=5*5*2^(M2-1)*(29*300000)) (n:Nat):fX 300000 (n+1) (aT w w) [1]=fX 300000 n (aT V V) [1]:=by
 have hw1:1<=nw:=Nat.le_trans (by omega) (Nat.le_trans h2 hw.len);have k1:Pk (aT w w) (cw+cw+4) (nw+nw-1):=hw.mul 4 hw (by omega);have hVp:=(hV.pk hp p0).mono (Nat.le_refl _) hV5;have k2:Pk (aT w V) (cw+504+4) (nw+5-1):=hw.mul 4 hVp (by omega);have n1:=xE h.tr h.tr h.ne h.ne;have n2:=xE h.tr hV.tr h.ne hV.ne;have f1:=sJ k1 n1 hM1 (by omega) (by omega) (by omega) 300000 (by decide) hZ1 (hF.square h.tr h.ne);have f2:=sJ k2 n2 (by omega) (by omega) (by omega) (by omega) 300000 (by decide) hZ2 (hF.less e);have kF:=pkF hp p0 h hF;have F0:F≠[]:=hF.2.1;have d1:=oK (y:=aT w V) k1 kF F0 (cC _) (fun x=>by rw[bZ,bZ,e]; grind) 300000 (by decide) (by
  have:=Nat.mul_le_mul (show nw+nw-1+1<=12 by omega) (show 471+1<=472 by omega);omega)
 have d2:=oK (y:=aT V V) k2 kF F0 (cC _) (fun x=>by rw[bZ,bZ,e]; grind) 300000 (by decide) (by
  have:=Nat.mul_le_mul (show nw+5-1+1<=12 by omega) (show 471+1<=472 by omega);omega)
 have d3:=oK (y:=[1]) kF kF F0 aI7 (fun x=>by rw[qO,Rat.one_mul]) 300000 (by decide) (by decide);have l1:=kF.len;have l2:=k2.len;have l3:=aJx V V;obtain⟨m1,_⟩:=qF h.tr h.tr h.ne h.ne;have:=aEf (n:=n) (o:=[1]) (by omega) f1 d1 f2 d2 d3 (by omega) (by omega) (by omega) (by omega) aVv (by rw[aMn]; decide +kernel);rw[this,aMn]
theorem aE7 {p:List Rat} (hp:Pk p 33 6) (p0:p≠[]):∀ (k:Nat) {w:List Rat},w.length<=k->w.length<=5->Wd p w->∀ n,k<=n->fX 300000 n (aT w w) [1]=some [aK p*aK p]
 | 0,w,hk,_,h,n,hn=>absurd (List.eq_nil_of_length_eq_zero (Nat.le_zero.1 hk)) h.ne
 | k+1,w,hk,h5,h,n,hn=>by
  obtain⟨n,rfl⟩:∃ m,n=m+1:=⟨n-1,by omega⟩
  rcases Nat.lt_or_ge w.length 2 with h2 | h2
  ·have h1:w.length=1:=by have:=List.length_pos_iff.2 h.ne; omega
   obtain⟨a,rfl⟩:=List.length_eq_one_iff.1 h1;have ha:a=aK p:=h.la;have ha0:a≠0:=eC h.tr h.ne;have tq:aJ [a*a]=[a*a]:=rA (.inr (by show a*a≠0; exact fun e=>(Rat.mul_eq_zero.1 e).elim ha0 ha0));have e1:aT [a] [a]=[a*a]:=iD (cC _) tq fun x=>by
    rw[bZ]; show (a+x*0)*(a+x*0)=a*a+x*0; grind
   have e2:aT [1] [a*a]=[a*a]:=iD (cC _) tq fun x=>by rw[bZ,qO,Rat.one_mul]
   have hpk:=h.pk hp p0;have hsq:Pk (aT [a] [a]) 1012 1:=hpk.mul 4 hpk (show 1+1<=2^4 by decide);rw[e1] at hsq |-;have hs:aD [a*a] 400=true:=hsq.sz (by decide) (by decide);rw[aDj (q:=[a*a]) (o:=[1]) (Nat.le_of_ble_eq_true rfl) (by
    simp only[mO,Bool.and_eq_true,decide_eq_true_eq];refine⟨Nat.le_of_ble_eq_true rfl,Nat.le_of_ble_eq_true rfl,Nat.le_of_ble_eq_true rfl,Nat.le_of_ble_eq_true rfl,by decide +kernel,hs,?_⟩;have e3:tab (kS [1] [a*a]) ([(1:Rat)].length+[a*a].length-1)=[a*a]:=by
     show [kS [1] [a*a] 0]=_;have:kS [1] [a*a] 0=a*a:=by
      have h3:(aT [1] [a*a]).getD 0 0=a*a:=by rw[e2]; rfl
      rw[aT,tB,pD,if_pos (Nat.lt_of_lt_of_le Nat.zero_lt_one (Nat.le_of_ble_eq_true rfl))] at h3;exact h3
     rw[this]
    rw[e3]; exact hs) (by rw[e2]; exact oZ (by decide) hs),e2,ha]
  ·obtain⟨F,hF⟩:=xI h.tr h.ne;obtain⟨V,hV,e,hl,_⟩:=h.quot hF;have hF2:=hF.len2 h.tr h2;have hpk:=(h.pk hp p0).mono (Nat.le_refl _) h5;rw[aJe hp p0 h h2 hF hV e (M1:=9) (M2:=9) hpk (by decide) (by omega) (by decide) (by decide) (by decide) (by decide) (by decide) (by decide) n];exact aE7 hp p0 k (by omega) (by omega) hV n (by omega)
theorem aP8 {p:List Rat} (hp:Pk p 33 6) (p0:p≠[]):fX 300000 8 (aT p p) [1]=some [aK p*aK p]:=by
 have h:Wd p p:=⟨hp.tr,p0,⟨[1],fun x=>by rw[qO,Rat.one_mul]⟩,rfl⟩
 have hl:=hp.len;rcases Nat.lt_or_ge p.length 6 with h6 | h6
 ·exact aE7 hp p0 6 (by omega) (by omega) h 8 (by decide)
 ·obtain⟨F,hF⟩:=xI h.tr h.ne;obtain⟨V,hV,e,hl,_⟩:=h.quot hF;have hF2:=hF.len2 h.tr (by omega);rw[aJe hp p0 h (by omega) hF hV e (M1:=11) (M2:=10) hp (by decide) (by omega) (by decide) (by decide) (by decide) (by decide) (by decide) (by decide) 7];exact aE7 hp p0 6 (by omega) (by omega) hV 7 (by decide)
theorem aAf {o z:List Rat} {c d n m:Nat} (ho:Pk o c n) (hz:Pk z d m) (z0:z≠[]) (hn:n<=6) (hm:m<=6) (hc:c+d+4<=11600):mO o z=true:=by
 have h1:=ho.len;have h2:=hz.len;have hp:=List.length_pos_iff.2 z0;have hmul:Pk (aT o z) (c+d+4) (n+m-1):=ho.mul 4 hz (by omega);have hs:aD (aT o z) 400=true:=hmul.sz (by decide) (by omega);simp only[mO,Bool.and_eq_true,decide_eq_true_eq];refine⟨hp,by omega,by omega,by omega,ho.sz (by decide) (by omega),hz.sz (by decide) (by omega),aU9 fun k=>?_⟩;have:=uJ hs k;rw[aT,tB] at this;exact this
theorem qI (p:List Rat) (x:Rat):ev (aI p (-1)) x =-ev p x:=by rw[bH]; grind
theorem xR:(-1:Rat)≠0:=by decide
theorem aAe {p:List Rat}:(aI p (-1)).length<=p.length:=oV _ _
theorem aLg {p:List Rat} (hp:Pk p 33 6) (p0:p≠[]):∀ (k:Nat) {w o:List Rat},w.length<=k->Wd p w->aJ o=o->o≠[]->aK o=1->Dv (aT o w) p->∀ n,k<=n ->
  ∃ r,aJ r=r/\r≠[]/\aK r=1/\Dv r p/\fX 300000 n w o=some (aI r (aK p))/\fX 300000 n (aI w (-1)) o=some (aI r (-aK p))
 | 0,w,_,hk,h,_,_,_,_,n,hn=>absurd (List.eq_nil_of_length_eq_zero (Nat.le_zero.1 hk)) h.ne
 | k+1,w,o,hk,h,tO,o0,lo,hd,n,hn=>by
  obtain⟨n,rfl⟩:∃ m,n=m+1:=⟨n-1,by omega⟩
  have hdo:Dv o p:=Dv.trans ⟨w,fun x=>by rw[bZ,Rat.mul_comm]⟩ hd;have ko:Pk o 471 6:=uP hp p0 (by decide) tO lo hdo;have kw:=(h.pk hp p0).mono (Nat.le_refl _) (h.len hp p0);have kn:Pk (aI w (-1)) 504 6:=kw.scale kQ;have n0:aI w (-1)≠[]:=rN h.tr h.ne xR;have hlp:=eC hp.tr p0;rcases Nat.lt_or_ge w.length 2 with h2 | h2
  ·have h1:w.length=1:=by have:=List.length_pos_iff.2 h.ne; omega
   obtain⟨a,rfl⟩:=List.length_eq_one_iff.1 h1;have ha:a=aK p:=h.la;refine⟨o,tO,o0,lo,hdo,?_,?_⟩
   ·have e:aT o [a]=aI o (aK p):=iD (cC _) (cC _) fun x=>by
     rw[bZ,bH,<- ha]; show _*(a+x*0)=_; grind
    rw[aDj (Nat.le_of_lt_succ h2) (aAf ko kw h.ne (by decide) (by decide) (by decide)) ((ko.mul 4 kw (by decide)).sz (by decide) (by decide)),e]
   ·have e:aT o (aI [a] (-1))=aI o (-aK p):=iD (cC _) (cC _) fun x=>by
     rw[bZ,bH,bH,<- ha]; show _*((a+x*0) * -1)=_; grind
    rw[aDj (Nat.le_trans aAe (Nat.le_of_lt_succ h2)) (aAf ko kn n0 (by decide) (by decide) (by decide)) ((ko.mul 4 kn (by decide)).sz (by decide) (by decide)),e]
  ·obtain⟨F,hF⟩:=xI h.tr h.ne;obtain⟨V,hV,e1,l1,_⟩:=h.quot hF;obtain⟨H,hH⟩:=xI hV.tr hV.ne;obtain⟨Y,hY,e2,l2,_⟩:=hV.quot hH;have hF2:=hF.len2 h.tr h2;have F0:F≠[]:=hF.2.1;have H0:H≠[]:=hH.2.1;have tH:aJ H=H:=hH.1;have lH:aK H=1:=hH.2.2.1;have lF:aK F=1:=hF.2.2.1;have hl1:=List.length_pos_iff.2 H0;have kF:=pkF hp p0 h hF;have kH:=pkF hp p0 hV hH;have kV:=(hV.pk hp p0).mono (Nat.le_refl _) (hV.len hp p0);have knV:Pk (aI V (-1)) 504 6:=kV.scale kQ;have nV0:aI V (-1)≠[]:=rN hV.tr hV.ne xR;have hdHV:Dv H V:=hH.dvF;obtain⟨z,hz⟩:=aWz hF tH H0 hH.sep (Dv.trans hdHV ⟨F,fun x=>by rw[e1,Rat.mul_comm]⟩);obtain⟨Z,hZ⟩:∃ Z,Z=aJ z:=⟨_,rfl⟩
   have tZ:aJ Z=Z:=by rw[hZ]; exact cC _
   have e3:∀ x,ev F x=ev Z x*ev H x:=fun x=>by rw[hZ,jQ,hz]
   have Z0:Z≠[]:=by
    intro q;exact rV hF.1 F0 (pN fun x=>by rw[e3,q,ev,Rat.zero_mul])
   have hm:F=aT Z H:=(aIk hF.1 e3).symm;obtain⟨_,m2⟩:=qF tZ tH Z0 H0;rw[<- hm,lF,lH,Rat.mul_one] at m2;have lZ:aK Z=1:=m2.symm;have hdF:Dv F p:=Dv.trans hF.dvF h.dv;have hdZ:Dv Z p:=Dv.trans ⟨H,fun x=>by rw[e3,Rat.mul_comm]⟩ hdF;have kZ:Pk Z 471 6:=uP hp p0 (by decide) tZ lZ hdZ;have o'0:=xE tO tZ o0 Z0;obtain⟨_,o2⟩:=qF tO tZ o0 Z0;have hd':Dv (aT (aT o Z) Y) p:=Dv.trans ⟨aT H H,fun x=>by
    rw[bZ,e1,e2,e3,bZ,bZ,bZ]; grind⟩ hd
   obtain⟨r,r1,r2,r3,r4,r5,r6⟩:=aLg hp p0 k (w:=Y) (o:=aT o Z) (by omega) hY (cC _) o'0 (by rw[o2,lo,lZ,Rat.mul_one]) hd' n (by omega);refine⟨r,r1,r2,r3,r4,?_,?_⟩
   ·rw[<- r5];have f1:=sJ (M:=6) kw h.ne (by decide) (by decide) (by decide) (by decide) 300000 (by decide) (by decide) hF;have f2:=sJ (M:=6) kV hV.ne (by decide) (by decide) (by decide) (by decide) 300000 (by decide) (by decide) hH;have d1:=oK kw kF F0 hV.tr e1 300000 (by decide) (by decide);have d2:=oK kV kH H0 hY.tr e2 300000 (by decide) (by decide);have d3:=oK kF kH H0 tZ e3 300000 (by decide) (by decide);have q1:=kF.len;have q2:=kV.len;have q3:=kH.len;exact aEf (by omega) f1 d1 f2 d2 d3 (by omega) (by omega) (by omega) (by omega) (aAf ko kZ Z0 (by decide) (by decide) (by decide)) ((ko.mul 4 kZ (by decide)).sz (by decide) (by decide))
   ·rw[<- r6];have f1:=sJ (M:=6) kn n0 (by decide) (by decide) (by decide) (by decide) 300000 (by decide) (by decide) (hF.scale xR);have f2:=sJ (M:=6) knV nV0 (by decide) (by decide) (by decide) (by decide) 300000 (by decide) (by decide) (hH.scale xR);have d1:=oK (y:=aI V (-1)) kn kF F0 (cC _) (fun x=>by rw[qI,qI,e1]; grind) 300000 (by decide) (by decide);have d2:=oK (y:=aI Y (-1)) knV kH H0 (cC _) (fun x=>by rw[qI,qI,e2]; grind) 300000 (by decide) (by decide);have d3:=oK kF kH H0 tZ e3 300000 (by decide) (by decide);have q1:=kF.len;have q2:=knV.len;have q3:=kH.len;have q4:(aI Y (-1)).length<=Y.length:=aAe;have q6:=hY.len hp p0;have q5:w.length=(aI w (-1)).length:=by
     have e:w=aI (aI w (-1)) (-1):=iD h.tr (cC _) fun x=>by rw[qI,qI]; grind
     have a1:(aI (aI w (-1)) (-1)).length<=(aI w (-1)).length:=aAe;rw[<- e] at a1;have a2:(aI w (-1)).length<=w.length:=aAe;omega
    exact aEf (by omega) f1 d1 f2 d2 d3 (by omega) (by omega) (by omega) (by omega) (aAf ko kZ Z0 (by decide) (by decide) (by decide)) ((ko.mul 4 kZ (by decide)).sz (by decide) (by decide))
def aBj (x:Rat) (K:Nat) (c:Int):qW where
 is:=fun w v=>∃ cs:List Value,v=.agg (cs++[Value.int .i64 c]).toArray/\Dm.at (.rt x.num (qd x) K) w (.agg cs.toArray)
 shape:=some 5
 plain:=false
 ok:=fun w v ⟨cs,h,hc⟩=>by
  subst h;obtain⟨a,n,c',a',n',c'',rfl,_⟩:=gT hc;exact⟨_,rfl,rfl,by simp[Value.oneCell']⟩
 pl:=fun h=>nomatch h
abbrev EG (x:Rat) (K:Nat) (c:Int):SA Dm:=.d (Dm.gen (aBj x K c))
theorem aM4 {x:Rat} {K:Nat} {c:Int}:∀ w v,Dm.at (Dm.gen (aBj x K c)) w v->∃ cs:List Value,v=.agg cs.toArray/\cs[4]?=some (.int .i64 c):=by
 rintro w v ⟨cs,h,hc⟩;obtain⟨a,n,c',a',n',c'',rfl,_⟩:=gT hc;exact⟨_,h,rfl⟩
theorem uS {x:Rat} {K:Nat} {c:Int}:lU (Dm.gen (aBj x K c)) 0 (some 4) (RT x K):=by
 rintro w cs ⟨c4,h,hc⟩;obtain rfl:cs=c4++[Value.int .i64 c]:=by simpa using congrArg Array.toList (Value.agg.inj h)
 obtain⟨a,n,c',a',n',c'',e,_⟩:=gT hc;refine⟨[],c4,[Value.int .i64 c],.agg c4.toArray,rfl,rfl,⟨rfl,?_,?_⟩,hc⟩
 ·rw[e]; rfl
 ·rw[e]; simp[Value.oneCell']
theorem qL {x:Rat} {K:Nat} {c:Int}:lU (Dm.gen (aBj x K c)) 4 none (.v (.int .i64 c)):=by
 rintro w cs ⟨c4,h,hc⟩;obtain rfl:cs=c4++[Value.int .i64 c]:=by simpa using congrArg Array.toList (Value.agg.inj h)
 obtain⟨a,n,c',a',n',c'',e,_⟩:=gT hc;exact⟨c4,[Value.int .i64 c],[],.int .i64 c,by simp,by rw[e]; rfl,⟨rfl,rfl⟩,rfl⟩
theorem uT:gV Tryz.prog 83 0 0:=gV.of (sz:=3) (by kernel_rfl)
theorem qM:gV Tryz.prog 83 1 4:=gV.of (sz:=0) (by kernel_rfl)
theorem aMx:aAk Tryz.prog 83 1=some (4,3):=by kernel_rfl
theorem kN:(Tryz.prog.info? 83).map (·.zero)=some (some (.agg #[.bool false,.slice none 0 0,.bool false,.slice none 0 0,.int .i64 0])):=by kernel_rfl
theorem dM:dG Tryz.prog 83 (some 5):=dG.row (by kernel_rfl) (by kernel_rfl)
theorem xP:(Tryz.prog.info? 83).map (·.size)=some 5:=by kernel_rfl
theorem iJ:Tryz.prog.underlying 111=some (.slice 83):=by kernel_rfl
theorem aUk (parts:List (Nat × Value)):Tryz.prog.built 83 parts=Instr.fill ((#[(0,4),(4,1)]:Array (Nat × Nat))[·]?) #[.bool false,.slice none 0 0,.bool false,.slice none 0 0,.int .i64 0] parts:=by kernel_rfl
section
variable {cx:Cx Dm} {n:Nat} {σ:St Dm} {o:Oper} {d:Nat}
theorem aH7 {x y:Operand} {a:Rat} {K:Nat} {c:Int} (ho:o.op=.build 83 #[(0,x),(1,y)]) (hd:o.dst=some d) (hn:d<n) (hx:opd σ x=.av (.one (RT a K))) (hy:opd σ y=.av (.one (.v (.int .i64 c)))):aS Tryz.prog cx n σ o (bF x++bF y) [(.s d,.av (.one (EG a K c)))]:=by
 refine eV hd hn rfl fun σ' ρ ac w h hk=>?_;have h1:=h.opd ((cQ fun q hq=>hk q (by simp[hq])).trans hx);have h2:ac.eval y=.int .i64 c:=h.opd ((cQ fun q hq=>hk q (by simp[hq])).trans hy);obtain⟨cs,hv⟩:∃ cs:List Value,ac.eval x=.agg cs.toArray:=by
  obtain⟨s,t',e,_⟩:=h1 w (Agree.refl _ _);exact⟨_,e⟩
 have h1':∀ w',Agree (aY cx σ' ρ) w w'->Dm.at (.rt a.num (qd a) K) w' (.agg cs.toArray):=fun w' hag=>by rw[<- hv]; exact h1 w' hag
 obtain⟨b,m,c1,b',m',c',rfl,_⟩:=gT (h1' w (Agree.refl _ _));refine⟨.agg #[.bool (decide (a.num<0)),.slice b m c1,.bool (decide (qd a<0)),.slice b' m' c',.int .i64 c],?_,?_⟩
 ·have hb:Tryz.prog.built 83 #[(0,ac.eval x),(1,ac.eval y)].toList=some #[.bool (decide (a.num<0)),.slice b m c1,.bool (decide (qd a<0)),.slice b' m' c',.int .i64 c]:=by
   rw[hv,h2,aUk]
   kernel_rfl
  have hb2:=run_build w 83 #[(0,ac.eval x),(1,ac.eval y)] _ hb;simp only[execOp,ho,Sem.run_bind];rw[show (#[(0,x),(1,y)]:Array (Nat × Operand)).map (fun p=>(p.1,ac.eval p.2))=#[(0,ac.eval x),(1,ac.eval y)] by simp,hb2];rfl
 ·intro w' hag;exact⟨_,rfl,h1' w' hag⟩
end
abbrev kX (l:List (List Rat)) (B:Nat):SA Dm:=.d (Dm.gen (pG none (mR l B)))
theorem zD (l:List (List Rat)) (x:Rat) (B K:Nat) (hl:l.length<=1000000) (hE:fR l x B K):aC Tryz.prog 116 [RT x K,kX l B] (.one (EG x K (bM x l))):=by
 refine aC.of (n:=9) Tryz.func116 rfl rfl rfl rfl rfl fun cx hfr=>?_;refine sr rfl ?_;refine p1 (jO) ?_;refine p2 (aV (i:=0) kN) ?_;refine RV.done ?_;refine CV.seq ?_;refine CV.region rfl (fun _=>by kernel_rfl) ?_;refine p1 (cD aB) ?_;refine p1 (cD aI6) ?_;refine p1 (cD aB) ?_;refine p1 (aDh (yV l x B K hl hE) (aMy _) (cx.wf hfr) rfl rfl bd Tryz.func16 rfl rfl (xb rfl rfl) rfl) ?_;refine p1 (aH7 rfl rfl bd rfl rfl) ?_;refine p2 (iT (dM).2) ?_;refine bP (by kernel_rfl) ?_;refine CV.ret ?_;exact aW rfl (.inr rfl) ⟨_,_,_,_,_,rfl,rfl,rfl,dM⟩ cH
def nH (l:List (List Rat)) (all:Int) (K:Nat):Nat->Rat->Option Rat
 | 0,_=>none
 | n+1,x=>if bM (-x) l-bM x l=all then some x else if aD [x*x] K=true then nH l all K n (x*x) else none
theorem aSb {l:List (List Rat)} {all:Int} {K n:Nat} {x y:Rat} (h:nH l all K n x=some y):∃ m,n=m+1:=by
 cases n with
 | zero=>cases h
 | succ m=>exact⟨m,rfl⟩
theorem aSa {l:List (List Rat)} {all:Int} {K n:Nat} {x y:Rat} (h:nH l all K (n+1) x=some y) (hc:bM (-x) l-bM x l=all):x=y:=by
 rw[nH,if_pos hc] at h;exact Option.some.inj h
theorem aT6 {l:List (List Rat)} {all:Int} {K n:Nat} {x y:Rat} (h:nH l all K (n+1) x=some y) (hc:¬ bM (-x) l-bM x l=all):aD [x*x] K=true/\nH l all K n (x*x)=some y:=by
 rw[nH,if_neg hc] at h;split at h
 ·rename_i h1; exact⟨h1,h⟩
 ·cases h
theorem aT5 (l:List (List Rat)) (b y:Rat) (B K n:Nat) (hl:l.length<=1000000) (hK6:6<=K) (hK:K<=100000) (hb:aD [b] K=true) (hE:∀ x,aD [x] K=true->fR l x B K) (h:nH l (bM (-b) l-bM b l) K n (Rat.divInt 2 1)=some y):aC Tryz.prog 66 [mR l B,RT b K] (.tup [EG (-y) K (bM (-y) l),EG y K (bM y l)]):=by
 have b1:=mZ (-b) l;have b2:=mZ b l;have h2:aD [Rat.divInt 2 1] K=true:=lJ hK6 (by decide +kernel);refine aC.of (n:=43) Tryz.func66 rfl rfl rfl rfl rfl fun cx hfr=>?_;refine sr rfl ?_;refine p1 (jO) ?_;refine p2 (cG (i:=0)) ?_;refine p2 (aV (i:=1) kN) ?_;refine p2 (aV (i:=2) kN) ?_;refine RV.done (sr rfl ?_);refine p1 (rY (caps:=[.tmp 2]) (ss:=[_]) rfl rfl bd (xa rfl) rfl) ?_;refine xn ?_;refine RV.done ?_;refine CV.seq ?_;refine CV.region rfl (fun _=>by kernel_rfl) ?_;refine xm ?_;refine p1 (aG aB) ?_;refine xc (wQ b K) Tryz.func100 (xa rfl) hfr ?_;refine p1 (wD (zD l (-b) B K hl (hE _ (aEz hb))) Tryz.func116 rfl rfl rfl rfl bd rfl (xa rfl) rfl hfr rfl) ?_;refine p1 (aH5 (aM4) aMx (by kernel_rfl) rfl rfl bd rfl) ?_;refine xm ?_;refine p1 (aG aB) ?_;refine p1 (wD (zD l b B K hl (hE _ hb)) Tryz.func116 rfl rfl rfl rfl bd rfl (xa rfl) rfl hfr rfl) ?_;refine p1 (aH5 (aM4) aMx (by kernel_rfl) rfl rfl bd rfl) ?_;refine p1 (eD (c:=bM (-b) l-bM b l) (cF (by omega) (by omega)) rfl rfl bd rfl rfl) ?_;refine xn ?_;refine bP (by kernel_rfl) ?_;refine sr rfl ?_;refine xd rfl ((pM 2 1 (by decide) (by decide) (by decide) (by decide)).mono (fun _ _ _ _ h=>h) (dY h2)) Tryz.func57 (xb rfl rfl) hfr ?_;refine p2 (aV (i:=3) bS) ?_;refine p1 (aP (aB).2) ?_;refine RV.done ?_;refine CV.block ?_;refine CV.loop (X:={z:Nat × Rat // nH l (bM (-b) l-bM b l) K z.1 z.2=some y/\aD [z.2] K=true}) (fun z=>[(.s 6,.av (.one (.d (Dm.gen (qV 116 [kX l B]))))),(.s 7,.av (.one (.v (.int .i64 (bM (-b) l-bM b l))))),(.s 8,.av (.one (.ptr 3 0))),(.b 3,.blk 31 [(some 4,RT z.1.2 K)]),(.s 4,.av (.one (.ptr 1 0))),(.b 1,.blk 83 [(some 5,(SA.v (.agg #[.bool false,.slice none 0 0,.bool false,.slice none 0 0,.int .i64 0]):SA Dm))]),(.s 5,.av (.one (.ptr 2 0))),(.b 2,.blk 83 [(some 5,(SA.v (.agg #[.bool false,.slice none 0 0,.bool false,.slice none 0 0,.int .i64 0]):SA Dm))])]) (fun z=>z.1.1) ⟨(n,Rat.divInt 2 1),h,h2⟩ (bQ.mk ⟨aF _,aF _,aF _,aF _,aF _,aF _,aF _,aF _,trivial⟩ rfl rfl) (fun z=>?_);obtain⟨⟨n,x⟩,hz,hx⟩:=z;simp only at hz hx |-;obtain⟨m,rfl⟩:=aSb hz;have c1:=mZ (-x) l;have c2:=mZ x l;refine CV.seq ?_;refine CV.block ?_;refine CV.seq ?_;refine CV.region rfl (fun _=>by kernel_rfl) ?_;refine xm ?_;refine p1 (aG aB) ?_;refine xc (wQ x K) Tryz.func100 (xa rfl) hfr ?_;refine p1 (wD (zD l (-x) B K hl (hE _ (aEz hx))) Tryz.func116 rfl rfl rfl rfl bd rfl (xa rfl) rfl hfr rfl) ?_;refine xm ?_;refine p1 (aG aB) ?_;refine p1 (wD (zD l x B K hl (hE _ hx)) Tryz.func116 rfl rfl rfl rfl bd rfl (xa rfl) rfl hfr rfl) ?_;refine p2 (aV (i:=4) kN) ?_;refine p2 (aV (i:=5) kN) ?_;refine p2 (iT (dM).2) ?_;refine p2 (iT (dM).2) ?_;refine bP (by kernel_rfl) ?_;refine sr rfl ?_;refine p1 (bJ qM) ?_;refine p1 (bN 4 qL iB) ?_;refine p1 (bJ qM) ?_;refine p1 (bN 4 qL iB) ?_;refine p1 (eD (c:=bM (-x) l-bM x l) (cF (by omega) (by omega)) rfl rfl bd rfl rfl) ?_;refine xm ?_;refine p1 (dF) ?_;refine RV.done ?_;refine CV.cond rfl (fun hc=>?_) (fun hc=>?_)
 ·have hxy:=aSa hz (by simpa using hc);refine CV.seq ?_;refine CV.region rfl (fun _=>by kernel_rfl) ?_;refine p1 (aG dM) ?_;refine p1 (aG dM) ?_;refine p2 (iT (dM).2) ?_;refine p2 (iT (dM).2) ?_;refine bP (by kernel_rfl) ?_;refine CV.ret ?_;subst hxy;exact sM rfl (.inr rfl) ⟨_,_,_,_,_,rfl,rfl,rfl,dM⟩ ⟨_,_,_,_,_,rfl,rfl,rfl,dM⟩ aEi
 ·have hn:=aT6 hz (by simpa using hc);refine CV.skip ?_;refine CV.seq ?_;refine CV.seq ?_;refine CV.sub (l':=[(.s 6,.av (.one (.d (Dm.gen (qV 116 [kX l B]))))),(.s 7,.av (.one (.v (.int .i64 (bM (-b) l-bM b l))))),(.s 8,.av (.one (.ptr 3 0))),(.b 3,.blk 31 [(some 4,RT x K)]),(.s 4,.av (.one (.ptr 1 0))),(.b 1,.blk 83 [(some 5,(SA.v (.agg #[.bool false,.slice none 0 0,.bool false,.slice none 0 0,.int .i64 0]):SA Dm))]),(.s 5,.av (.one (.ptr 2 0))),(.b 2,.blk 83 [(some 5,(SA.v (.agg #[.bool false,.slice none 0 0,.bool false,.slice none 0 0,.int .i64 0]):SA Dm))])]) (bQ.mk ⟨aF _,aF _,aF _,aF _,aF _,aF _,aF _,aF _,trivial⟩ rfl rfl) ?_;refine CV.region rfl (fun h=>nomatch h) ?_;refine p1 (aG aB) ?_;refine RV.done ?_;refine CV.region rfl (fun h=>nomatch h) ?_;refine p2 (aV (i:=6) bS) ?_;refine p1 (aP (aB).2) ?_;refine RV.done ?_;refine CV.region rfl (fun h=>nomatch h) ?_;refine p1 (aG aB) ?_;refine p1 (aG aB) ?_;refine xd rfl ((oA x x K K (by omega) (by omega)).mono (fun _ _ _ _ h=>h) (dY hn.1)) Tryz.func87 (xb rfl rfl) hfr ?_;refine p1 (aP (aB).2) ?_;refine RV.done ?_;exact⟨⟨(m,x*x),hn.2,hn.1⟩,oE (fun i=>if i=3 then 6 else i) ⟨mT,mT,fun _ _ _ _ h=>h,⟨rfl,fun _ _ _ _ h=>h⟩,fun _ _ _ _ h=>h,⟨rfl,fun _ _ _ _ h=>h⟩,fun _ _ _ _ h=>h,⟨rfl,fun _ _ _ _ h=>h⟩,trivial⟩ rfl rfl rfl rfl,by show m<m+1; omega⟩
theorem aV1:nH (lS.map (·.1)) (bM (-4) (lS.map (·.1))-bM 4 (lS.map (·.1))) 6 5 (Rat.divInt 2 1)=some 4:=by decide +kernel
section
variable (zs1 zs2 zs3:List Int) (hz1:∀ z∈zs1,-9223372036854775808<=z/\z<=9223372036854775807) (hz2:∀ z∈zs2,-9223372036854775808<=z/\z<=9223372036854775807) (hz3:∀ z∈zs3,-9223372036854775808<=z/\z<=9223372036854775807) (c:Int) (hc1 : -9223372036854775808<=c) (hc2:c<=9223372036854775807)
include hz1 hz2 hz3 hc1 hc2
end
end Vc
end Go.Proofs.YtjmbkipbmbnhjaaGreat
