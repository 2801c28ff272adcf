/-
  
-/
import Derived.Test.YtbaihklbefhgdaaGreatSC44
import Derived.Test.YtbaihklbefhgdaaGreatSC11
import Derived.Test.YtbaihklbefhgdaaGreatSC36
import Derived.Test.YtbaihklbefhgdaaGreatSC41
set_option linter.unusedVariables false
set_option linter.unusedSimpArgs false
set_option linter.unusedSectionVars false
namespace Go.Proofs.YtbaihklbefhgdaaGreat
open Go.RowKit
open Dg Zn
namespace Vc
def nR (x:Rat) (l:List (List Rat)):List Int:=(l.map fun p=>bP (ev p x)).filter fun s=>decide (s≠0)
theorem aUr (x:Rat) (p:List Rat) (l:List (List Rat)):nR x (p::l)=if bP (ev p x)=0 then nR x l else bP (ev p x)::nR x l:=by
 unfold nR;by_cases h:bP (ev p x)=0
 ·simp[h]
 ·simp[h]
def oS (L:List Int):Nat->Int
 | 0=>0
 | k+1=>if L.getD (k+1) 0≠L.getD k 0 then oS L k+1 else oS L k
def aBt (x:Rat) (l:List (List Rat)):Int:=oS (nR x l) ((nR x l).length-1)
def yG:List Int->Int
 | a::b::l=>(if b≠a then 1 else 0)+yG (b::l)
 | _=>0
theorem aJz (a b:Int) (l:List Int):∀ k,oS (a::b::l) (k+1)=(if b≠a then 1 else 0)+oS (b::l) k
 | 0=>by
  show (if (a::b::l).getD 1 0≠(a::b::l).getD 0 0 then oS (a::b::l) 0+1 else oS (a::b::l) 0)=_;show (if b≠a then (0:Int)+1 else 0)=(if b≠a then 1 else 0)+0;split<;>rfl
 | k+1=>by
  have ih:=aJz a b l k;rw[oS,ih,oS];have e1:(a::b::l).getD (k+1+1) 0=(b::l).getD (k+1) 0:=rfl;have e2:(a::b::l).getD (k+1) 0=(b::l).getD k 0:=rfl;rw[e1,e2];split<;>omega
theorem aLs:∀ l:List Int,oS l (l.length-1)=yG l
 | []=>rfl
 | [a]=>rfl
 | a::b::l=>by
  have ih:=aLs (b::l);rw[yG,<- ih];exact aJz a b l l.length
theorem aEi (x:Rat):∀ (l:List (List Rat)) (n b:Int),(-1<=b/\b<=1)->(gD x l (n,b)).1=n+yG (if b=0 then nR x l else b::nR x l)
 | [],n,b,_=>by
  rw[gD];split
  ·show n=n+0;omega
  ·show n=n+0;omega
 | p::l,n,b,hb=>by
  rw[gD,aUr];have hs:=aA7 (ev p x);generalize bP (ev p x)=s at hs |-;simp only;by_cases h0:s=0
  ·subst h0;rw[if_neg (by omega),if_neg (by simp),if_pos rfl];exact aEi x l n b hb
  ·rw[if_pos h0,if_neg h0];have ih:=aEi x l (if s*b<0 then n+1 else n) s hs;rw[if_neg h0] at ih;rw[ih];by_cases hb0:b=0
   ·subst hb0;rw[if_pos rfl,if_neg (by omega)]
   ·rw[if_neg hb0,yG];rcases (by omega:s = -1\/s=1) with rfl | rfl<;>rcases (by omega:b = -1\/b=1) with rfl | rfl<;>simp<;>omega
theorem aLn (x:Rat) (l:List (List Rat)):bC x l=aBt x l:=by
 unfold bC aBt;rw[aLs,aEi x l 0 0 (by decide),if_pos rfl,Int.zero_add]
end Vc
end Go.Proofs.YtbaihklbefhgdaaGreat

namespace Go.Proofs.YtbaihklbefhgdaaGreat
open Go.RowKit
open Go.Lib (hid)
open Dg Zn
namespace Vc
set_option maxRecDepth 100000
def fS (p:List Rat):Nat->Rat
 | 0=>0
 | k+1=>if eV (eW (p.getD k 0/aG p)) (fS p k)>0 then eW (p.getD k 0/aG p) else fS p k
def iO (p:List Rat):Rat:=fS p (p.length-1)+1
section
variable (p:List Rat) (B:Nat) (hB:B<=300000) (hp:p.length<=1000000) (hz:∀ k,k<p.length->aH [p.getD k 0/aG p] B=true)
include hB hp hz
theorem aDs:aD Tryz.prog 16 [PL p B] (.one (RT (iO p) (3*(B+6)+20))):=by
 have e11:Rat.divInt 1 1=1:=by decide
 refine aD.of (n:=28) Tryz.func16 rfl rfl rfl rfl rfl fun cx hfr=>?_;refine sr rfl ?_;refine p2 (aU (i:=0) cI) ?_;refine RV.done (sr rfl ?_);refine p2 (aU (i:=1) cI) ?_;refine RV.done ?_;refine CV.seq ?_;refine sr rfl ?_;refine xm ?_;refine xc (qK _ _ hp) Tryz.func68 (xa rfl) hfr ?_;refine xm ?_;refine RV.done ?_;refine CV.block ?_;refine CV.loop (X:={k:Nat // k<=p.length-1}) (fun k=>[(.s 8,.av (.one (.v (.int .i64 (k.1:Int))))),(.s 7,.av (.one (.v (.int .i64 ((p.length:Int)-1))))),(.s 0,.av (.one (PL p B))),(.s 3,.av (.one (.ptr 1 0))),(.b 1,.blk 30 [(some 4,RT (fS p k.1) B)]),(.s 2,.av (.one (.ptr 0 0))),(.b 0,.blk 30 [(some 4,.v dX)])]) (fun k=>p.length-1-k.1) ⟨0,Nat.zero_le _⟩ (aZ.mk ⟨aB _,aB _,aB _,aB _,le_zero,aB _,aB _,trivial⟩ rfl rfl) (fun k=>?_);obtain⟨k,hk⟩:=k;simp only;refine sr rfl ?_;refine p1 (dP) ?_;refine RV.done ?_;refine CV.seq ?_;refine CV.cond rfl (fun hc=>?_) (fun hc=>?_)
 ·have hlt:k+1<p.length:=(by have:=of_decide_eq_true hc; omega)
  have hp0:p≠[]:=List.length_pos_iff.1 (by omega);refine CV.skip ?_;refine CV.seq ?_;refine CV.block ?_;refine sr rfl ?_;refine xm ?_;refine xn ?_;refine RV.done ?_;refine CV.seq ?_;refine CV.region rfl (fun _=>by kernel_rfl) ?_;refine xm ?_;refine xm ?_;refine p1 (cV (k:=some 4) (i:=k) (dN (by omega)) bE cH rfl rfl bd rfl rfl (by decide)) ?_;refine p1 (bT aC) ?_;refine xm ?_;refine xc (aDc p B hp hp0) Tryz.func71 (xa rfl) hfr ?_;refine xd rfl ((pE (p.getD k 0) (aG p) B B (by omega) (by omega)).mono (fun _ _ _ _ h=>h) (eQ (hz k (by omega)))) Tryz.func70 (xb rfl rfl) hfr ?_;refine xc (aCe _ _) Tryz.func69 (xa rfl) hfr ?_;refine p2 (aU (i:=2) cI) ?_;refine p1 (aQ (aC).2) ?_;refine bU (by kernel_rfl) ?_;refine sr rfl ?_;refine p1 (aJ aC) ?_;refine p1 (aJ aC) ?_;refine xd rfl (aCg (eW (p.getD k 0/aG p)) (fS p k) B B (by omega) (by omega)) Tryz.func72 (xb rfl rfl) hfr ?_;refine p1 (gC) ?_;refine RV.done ?_;refine CV.cond rfl (fun hx=>?_) (fun hx=>?_)
  ·refine CV.region rfl (fun h=>nomatch h) ?_;refine p1 (aJ aC) ?_;refine p1 (aQ (aC).2) ?_;refine RV.done ?_;refine CV.region rfl (fun h=>nomatch h) ?_;refine p1 (cP (c:=((k+1:Nat):Int)) (by rw[bV (by omega) (by omega)]; omega) rfl rfl bd rfl rfl) ?_;refine xm ?_;refine RV.done ?_;have e:fS p (k+1)=eW (p.getD k 0/aG p):=(by rw[fS,if_pos (of_decide_eq_true hx)])
   exact⟨⟨k+1,by omega⟩,aZ.mk ⟨aB _,aB _,aB _,aB _,iI (by rw[e]; rfl),aB _,aB _,trivial⟩ rfl rfl,by show p.length-1-(k+1)<p.length-1-k; omega⟩
  ·refine CV.skip ?_;refine CV.region rfl (fun h=>nomatch h) ?_;refine p1 (cP (c:=((k+1:Nat):Int)) (by rw[bV (by omega) (by omega)]; omega) rfl rfl bd rfl rfl) ?_;refine xm ?_;refine RV.done ?_;have e:fS p (k+1)=fS p k:=(by rw[fS,if_neg (of_decide_eq_false hx)])
   exact⟨⟨k+1,by omega⟩,aZ.mk ⟨aB _,aB _,aB _,aB _,iI (by rw[e]; rfl),aB _,aB _,trivial⟩ rfl rfl,by show p.length-1-(k+1)<p.length-1-k; omega⟩
 ·refine CV.exit ?_;refine CV.seq ?_;have hk2:k=p.length-1:=(by have:=of_decide_eq_false hc; omega)
  subst hk2;refine CV.region rfl (fun _=>by kernel_rfl) ?_;refine p1 (aJ aC) ?_;refine xd rfl ((pQ 1 1 (by decide) (by decide) (by decide) (by decide)).mono (fun _ _ _ _ h=>h) (vI e11)) Tryz.func74 (xb rfl rfl) hfr ?_;refine xd rfl (xE (fS p (p.length-1)) 1 B 6 (by omega) (by omega)) Tryz.func73 (xb rfl rfl) hfr ?_;refine p1 (aQ (aC).2) ?_;refine bU (by kernel_rfl) ?_;refine CV.ret ?_;exact aS rfl (.inr rfl) ⟨_,_,_,_,_,rfl,rfl,rfl,aC⟩ cL
end
def aO9 (d:Int) (zs:List Int):List Rat:=aI (tab (fun i=>Rat.divInt (zs.getD i 0) d) zs.length)
theorem aXu (d:Int) (zs:List Int) (h1 : -9223372036854775808<=d) (h2:d<=9223372036854775807) (hz:∀ i,-9223372036854775808<=zs.getD i 0/\zs.getD i 0<=9223372036854775807) (hl:zs.length<=1000000):aD Tryz.prog 83 [.v (.int .i64 d),ZI .i64 zs] (.one (PL (aO9 d zs) 6)):=by
 refine aD.of (n:=24) Tryz.func83 rfl rfl rfl rfl rfl fun cx hfr=>?_;refine sr rfl ?_;refine xn ?_;refine RV.done (sr rfl ?_);refine xn ?_;refine RV.done ?_;refine CV.seq ?_;refine CV.seq ?_;refine oD 5 100 30 (some 4) rfl rfl rfl rfl ?_;refine CV.region rfl (fun h=>nomatch h) ?_;refine xn ?_;refine RV.done ?_;refine CV.block ?_;refine CV.loop (X:={k:Nat // k<=zs.length}) (fun k=>[(.s 6,.av (.one (.v (.int .i64 (k.1:Int))))),(.s 5,.av (.one (.sl 100 k.1))),(.b 100,.row 30 (some 4) (iN (fun i=>Rat.divInt (zs.getD i 0) d) 6 k.1)),(.s 1,.av (.one (ZI .i64 zs))),(.s 0,.av (.one (.v (.int .i64 d))))]) (fun k=>zs.length-k.1) ⟨0,Nat.zero_le _⟩ (aZ.mk ⟨aB _,aB _,fC rfl,aB _,aB _,trivial⟩ rfl rfl) (fun k=>?_);obtain⟨k,hk⟩:=k;simp only;refine CV.seq ?_;refine sr rfl ?_;refine xm ?_;refine xm ?_;refine p1 (bL (wE _) qW) ?_;refine p1 (dP) ?_;refine RV.done ?_;refine CV.cond rfl (fun hc=>?_) (fun hc=>?_)
 ·have hlt:k<zs.length:=(by have:=of_decide_eq_true hc; omega)
  refine CV.skip ?_;refine CV.seq ?_;refine CV.block ?_;refine CV.region rfl (fun h=>nomatch h) ?_;refine xm ?_;refine xm ?_;refine xm ?_;refine p1 (cV (k:=none) (i:=k) (aNj hlt) qW aFt) ?_;refine p1 (bT kX) ?_;refine xm ?_;refine xc (lK (zs.getD k 0) d (hz k).1 (hz k).2 h1 h2) Tryz.func32 (xb rfl rfl) hfr ?_;refine p1 (fH (G:=Dm.gen (cA (some 4) [_])) (cS _ _) bY mO rfl rfl rfl (by intro s hs; obtain rfl:=List.mem_singleton.1 hs; rfl) rfl rfl rfl bd (xa rfl)) ?_;refine gI (aN.plain (iR (r:=100) (r':=101) (gU (by decide) rfl) (by rw[iF]; show (k+1)*64<=_; omega) (by rw[iF]; show k+1<=_; omega) bY gL rfl rfl rfl (by intro x hx; obtain rfl:=List.mem_singleton.1 hx; rfl) iF.symm rfl rfl bd rfl rfl rfl rfl rfl rfl rfl rfl) rfl) ?_;refine xn ?_;refine RV.done ?_;refine CV.region rfl (fun h=>nomatch h) ?_;refine xm ?_;refine p1 (cP (c:=((k+1:Nat):Int)) (by rw[bV (by omega) (by omega)]; omega) rfl rfl bd rfl rfl) ?_;refine xn ?_;refine RV.done ?_;exact⟨⟨k+1,hlt⟩,kW (fun i=>if i=100 then 101 else i) ⟨gG,mK rfl rfl,fC wM,gG,gG,trivial⟩ rfl rfl rfl rfl,by show zs.length-(k+1)<zs.length-k; omega⟩
 ·refine CV.exit ?_;refine CV.seq ?_;have hk1:k=zs.length:=(by have:=of_decide_eq_false hc; omega)
  subst hk1;rw[uB];refine jZ (r:=100) (t:=5) (G:=Dm.gen (cA (some 4) (bB (tab (fun i=>Rat.divInt (zs.getD i 0) d) zs.length) 6))) (cx.bw hfr) rfl rfl (by rw[aV,gT]) rfl rfl (cS _ _) (iS _ _) ?_;refine CV.region rfl (fun h=>nomatch h) ?_;refine xm ?_;refine xd rfl (oA _ _ (by rw[gT]; exact hl)) Tryz.func66 (xa rfl) hfr ?_;refine xn ?_;refine RV.done ?_;refine CV.ret ?_;exact aS rfl (.inr rfl) rfl cL
theorem nA (z:Int) (h1 : -9223372036854775808<=z) (h2:z<=9223372036854775807):aD Tryz.prog 30 [(.v (.int .i64 z):SA Dm)] (.one (RT (Rat.divInt z 1) 6)):=by
 refine aD.of (n:=5) Tryz.func30 rfl rfl rfl rfl rfl fun cx hfr=>?_;refine sr rfl ?_;refine p2 (aU (i:=0) cI) ?_;refine RV.done (sr rfl ?_);refine xm ?_;refine xd rfl (lK z 1 h1 h2 (by decide) (by decide)) Tryz.func32 (xb rfl rfl) hfr ?_;refine p1 (aQ (aC).2) ?_;refine RV.done ?_;refine CV.ret ?_;exact aS rfl (.inr rfl) ⟨_,_,_,_,_,rfl,rfl,rfl,aC⟩ cL
def prG (a b:Rat) (j k:Nat):rN where
 is:=fun w v=>∃ (c e:List Value),v=.agg (c++e).toArray/\Dm.at (.rt a.num (qd a) j) w (.agg c.toArray)/\Dm.at (.rt b.num (qd b) k) w (.agg e.toArray)
 shape:=some 8
 plain:=true
 ok:=fun w v ⟨c,e,h,hc,he⟩=>by
  subst h;obtain⟨a,n,c',a',n',c'',rfl,_⟩:=iH hc;obtain⟨b,m,d',b',m',d'',rfl,_⟩:=iH he;exact⟨_,rfl,rfl,by simp[Value.oneCell']⟩
 pl:=fun _ w v ⟨c,e,h,hc,he⟩=>by
  subst h;obtain⟨a,n,c',a',n',c'',rfl,_⟩:=iH hc;obtain⟨b,m,d',b',m',d'',rfl,_⟩:=iH he;simp[Value.cells,cZ]
abbrev PR (a b:Rat) (j k:Nat):SA Dm:=.d (Dm.gen (prG a b j k))
theorem aL0:(Tryz.prog.info? 47).map (·.zero)=some (some (.agg #[.bool false,.slice none 0 0,.bool false,.slice none 0 0,.bool false,.slice none 0 0,.bool false,.slice none 0 0])):=by kernel_rfl
theorem aBm:dL Tryz.prog 47 (some 8):=dL.row (by kernel_rfl) (by kernel_rfl)
theorem aWg (parts:List (Nat × Value)):Tryz.prog.built 47 parts=Instr.fill (fun i=>some (i*4,4)) #[.bool false,.slice none 0 0,.bool false,.slice none 0 0,.bool false,.slice none 0 0,.bool false,.slice none 0 0] parts:=by kernel_rfl
section
variable {P:Program} {cx:Cx Dm} {n:Nat} {σ:St Dm} {o:Oper} {d t:Nat}
theorem aH0 {x y:Operand} {a b:Rat} {j k:Nat} (ho:o.op=.build 47 #[(0,x),(1,y)]) (hd:o.dst=some d) (hn:d<n) (hx:opd σ x=.av (.one (RT a j))) (hy:opd σ y=.av (.one (RT b k))):aN Tryz.prog cx n σ o (bH x++bH y) [(.s d,.av (.one (PR a b j k)))]:=by
 refine fE hd hn rfl fun σ' ρ a' w h hk=>?_;have h1:=h.opd ((cR fun q hq=>hk q (by simp[hq])).trans hx);have h2:=h.opd ((cR fun q hq=>hk q (by simp[hq])).trans hy);have cells:∀ {z:Operand} {q:Rat} {i:Nat},(RT q i).is (aT cx σ' ρ) ρ w (a'.eval z)->∃ cs:List Value,a'.eval z=.agg cs.toArray:=fun h=>by
  obtain⟨s,t',e,_⟩:=h w (Agree.refl _ _);exact⟨_,e⟩
 obtain⟨cs,hv⟩:=cells h1;obtain⟨es,hv'⟩:=cells h2;have h1':∀ w',Agree (aT cx σ' ρ) w w'->Dm.at (.rt a.num (qd a) j) w' (.agg cs.toArray):=fun w' hag=>by rw[<- hv]; exact h1 w' hag
 have h2':∀ w',Agree (aT cx σ' ρ) w w'->Dm.at (.rt b.num (qd b) k) w' (.agg es.toArray):=fun w' hag=>by rw[<- hv']; exact h2 w' hag
 obtain⟨p1,p2,p3,p4,p5,p6,rfl,_⟩:=iH (h1' w (Agree.refl _ _));obtain⟨q1,q2,q3,q4,q5,q6,rfl,_⟩:=iH (h2' w (Agree.refl _ _));refine⟨.agg #[.bool (decide (a.num<0)),.slice p1 p2 p3,.bool (decide (qd a<0)),.slice p4 p5 p6,.bool (decide (b.num<0)),.slice q1 q2 q3,.bool (decide (qd b<0)),.slice q4 q5 q6],?_,?_⟩
 ·have hb:Tryz.prog.built 47 #[(0,a'.eval x),(1,a'.eval y)].toList=some #[.bool (decide (a.num<0)),.slice p1 p2 p3,.bool (decide (qd a<0)),.slice p4 p5 p6,.bool (decide (b.num<0)),.slice q1 q2 q3,.bool (decide (qd b<0)),.slice q4 q5 q6]:=by
   rw[hv,hv',aWg]
   kernel_rfl
  have hb2:=run_build w 47 #[(0,a'.eval x),(1,a'.eval y)] _ hb;simp only[execOp,ho,Sem.run_bind];rw[show (#[(0,x),(1,y)]:Array (Nat × Operand)).map (fun p=>(p.1,a'.eval p.2))=#[(0,a'.eval x),(1,a'.eval y)] by simp,hb2];rfl
 ·intro w' hag;exact⟨_,_,rfl,h1' w' hag,h2' w' hag⟩
end
section
variable (p:List Rat) (lo hi:Rat) (K Kx:Nat) (hp:p.length<=1000000) (hl:fM [p] lo K Kx) (hh:fM [p] hi K Kx)
include hp hl hh
end
def nP (lo hi:Rat):Rat:=(lo+hi)*Rat.divInt 1 2
section
variable (p:List Rat) (L:List (List Rat × Rat)) (lo hi:Rat) (B K:Nat) (hB:B<=300000) (hp:p.length<=1000000) (h:lY B p=some L) (hL:L.length<=1000000) (hm:aH [nP lo hi] K=true) (p1:fM [p] lo B K) (p2:fM [p] hi B K) (p3:fM [p] (nP lo hi) B K) (h1:fM (L.map (·.1)) lo B K) (h3:fM (L.map (·.1)) (nP lo hi) B K)
include hB hp h hL hm p1 p2 p3 h1 h3
end
section
variable {p:List Rat} {c n:Nat}
end
section
variable (zs1 zs2:List Int) (hz1:∀ z∈zs1,-9223372036854775808<=z/\z<=9223372036854775807) (hz2:∀ z∈zs2,-9223372036854775808<=z/\z<=9223372036854775807) (c d:Int) (hc1 : -9223372036854775808<=c) (hc2:c<=9223372036854775807) (hd1 : -9223372036854775808<=d) (hd2:d<=9223372036854775807)
include hz1 hz2 hc1 hc2 hd1 hd2
end
/-! Lists of pairs of polynomials. -/
theorem aJ7:dL Tryz.prog 36 none:=dL.one (by kernel_rfl) (by kernel_rfl)
theorem aZ2 {p q:List Rat} {c d n m:Nat} (hp:Pk p c n) (hq:Pk q d m) (hc:c<=290) (hd:d<=290) (hn:n<=10) (hm:m<=10):aD Tryz.prog 67 [PL p 10,PL q 10] (.one (PL (bD p q) 3000)):=by
 have h1:=hp.len;have h2:=hq.len;rw[<- aXd];refine aSv p q 10 10 3000 (by decide) (by decide) (hp.sz (by decide) hc) (hq.sz (by decide) hd) (by omega) (by omega) (by decide) (by decide) (by decide) ?_;have:(p.length+1)*(q.length*(10+10+1))<=11*(10*21):=Nat.mul_le_mul (by omega) (Nat.mul_le_mul (by omega) (Nat.le_refl _));omega
section
variable (zs1 zs2:List Int) (hz1:∀ z∈zs1,-9223372036854775808<=z/\z<=9223372036854775807) (hz2:∀ z∈zs2,-9223372036854775808<=z/\z<=9223372036854775807) (c:Int) (hc1 : -9223372036854775808<=c) (hc2:c<=9223372036854775807)
include hz1 hz2 hc1 hc2
end
theorem aVe {u v:List Rat} {c d n m:Nat} (hu:Pk u c n) (hv:Pk v d m) (hn:n<=100) (hc:c+101*(d+1)+d<=2900000):∃ U R,dK 100000 u v=some (U,R)/\aI U=U/\U.length<=101/\R.length<=100/\(v≠[]->aI R=R/\R.length<v.length/\(∀ x,ev u x=ev U x*ev v x+ev R x)/\Cb U (c+101*(d+1)+d)):=by
 have hl:=hu.len;by_cases h0:v=[]
 ·subst h0;exact⟨[],[],by rw[dK,if_pos rfl],rfl,Nat.zero_le _,Nat.zero_le _,fun h=>absurd rfl h⟩
 ·have he:jR u v c d<=c+101*(d+1)+d:=by
   unfold jR;have:=Nat.mul_le_mul_right (d+1) (show u.length+1-v.length<=101 by omega);omega
  obtain⟨U,R,h1,h2,h3,h4,h5,h6,h7,h8⟩:=wQ (B:=100000) (by decide) hu.tr hv.tr h0 hu.cb hv.cb (by omega);refine⟨U,R,h1,h2,by omega,?_,fun _=>⟨h3,h4,h6,h7.mono he⟩⟩;by_cases hr:R=[]
  ·rw[hr]; exact Nat.zero_le _
  ·rcases Nat.lt_or_ge u.length v.length with hlt | hge
   ·have hU:U=[]:=List.eq_nil_of_length_eq_zero (by omega);have hR:u=R:=lQ hu.tr h3 fun x=>by rw[h6,hU,ev,Rat.zero_mul,Rat.zero_add]
    rw[<- hR];omega
   ·omega
theorem aRs {g:List Rat} (tg:aI g=g) (hl:aG g=1):aY g=g:=lQ (cK _) tg fun x=>by
 rw[aY,cD,hl,show (1:Rat)/1=1 by decide +kernel,Rat.mul_one]
theorem aY8 {u g:List Rat} {c n:Nat} (hu:Pk u c n) (hu0:u≠[]) (hn:n<=2^c) (tg:aI g=g) (hl:aG g=1) (h:Dv g u):Pk g (sS c n) n:=by
 have h1:=aLf hu.tr hu0 hu.cb hu.len hn tg h;rw[aRs tg hl] at h1;exact⟨h1,tg,Nat.le_trans (nI tg hu.tr hu0 h).2.1 hu.len⟩
theorem aH7 {u:List Rat} {c n:Nat} (hu:Pk u c n) (hn:n<=11) (hc:c<=70) (hc2:4<=c):∃ G U R,nQ 100000 u (bN u)=some G/\pV 100000 u (bN u)=some G/\aI G=G/\G.length<=11/\aH G 100000=true/\dK 100000 u G=some (U,R)/\aI U=U/\U.length<=101/\aH (aY U) 100000=true/\(u≠[]->cQ u (bN u) G/\G≠[]/\aG G=1/\aI R=R/\R.length<G.length/\∀ x,ev u x=ev U x*ev G x+ev R x)/\(u=[]->U=[]):=by
 by_cases h0:u=[]
 ·subst h0;exact⟨[],[],[],aK6 (by decide),rfl,rfl,Nat.zero_le _,rfl,by rw[dK,if_pos rfl],rfl,Nat.zero_le _,rfl,fun h=>absurd rfl h,fun _=>rfl⟩
 ·have hd:=hu.derive 4 (by omega);have hpos:=List.length_pos_iff.2 h0;have hQ:pY u (bN u) c (c+4)<=608:=by
   unfold pY;have:=wB u;rw[if_pos (by omega)];omega
  have h1:=hu.len;have h2:=hd.len;obtain⟨G,e,g1,g2,g3,g4,_,_,_,_⟩:=aVw (B:=100000) (M:=11) (Q:=608) (by decide) hu.tr hd.tr (by omega) (by omega) hu.cb hd.cb (by omega) (by omega) hQ (by decide);obtain⟨q1,q2,q3⟩:=g4 (.inl h0);have h16:2^4<=2^c:=eJ hc2;have hG:=aY8 hu h0 (by omega) g3 q2 q3.1;have hk:sS c n<=1687:=by
   unfold sS;have:=Nat.mul_le_mul (show n<=11 from hn) (show c+3<=73 by omega);have:=Nat.mul_le_mul (show n<=11 from hn) (show c+4<=74 by omega);omega
  have hG2:=hG.mono hk (Nat.le_refl _);obtain⟨U,R,u1,u2,u3,u4,u5⟩:=aVe hu hG2 (by omega) (by omega);obtain⟨v1,v2,v3,v4⟩:=u5 q1;obtain⟨_,_,m3,_⟩:=wP u2 v4;have hGl:=hG2.len;exact⟨G,U,R,g1,g2,g3,by omega,hG2.sz (by decide) (by decide),u1,u2,u3,m3.sz (by decide) (by omega),fun _=>⟨q3,q1,q2,v1,v2,v3⟩,fun h=>absurd h h0⟩
theorem aK7 {u G U R:List Rat} (h0:aH (bN u) 100000=true) (h1:nQ 100000 u (bN u)=some G) (h2:dK 100000 u G=some (U,R)) (hG:G.length<=11) (hU:U.length<=101) (hm:aH (aY U) 100000=true):kI 100000 u=some (aY U):=by
 unfold kI;rw[if_pos h0,h1];show (dK 100000 u G).bind _=_;rw[h2];show (if _ then some _ else none)=_;rw[decide_eq_true (show G.length<=1000000 by omega),decide_eq_true (show U.length<=1000000 by omega),hm];rfl
section
variable (zs1 zs2:List Int) (hz1:∀ z∈zs1,-9223372036854775808<=z/\z<=9223372036854775807) (hz2:∀ z∈zs2,-9223372036854775808<=z/\z<=9223372036854775807)
include hz1 hz2
end
end Vc
end Go.Proofs.YtbaihklbefhgdaaGreat

namespace Go.Proofs.YtbaihklbefhgdaaGreat
open Go.RowKit
open Dg Zn
namespace Vc
section
variable {u v G U R F:List Rat}
variable {c d n m:Nat}
end
end Vc
end Go.Proofs.YtbaihklbefhgdaaGreat

namespace Go.Proofs.YtbaihklbefhgdaaGreat
open Go.RowKit
open Go.Lib (hid)
open Dg Zn
namespace Vc
theorem aX2 {c n:Nat} (hc:c<=70) (hn:n<=7):sS c n<=1099:=by
 unfold sS;have h1:n*(c+3)<=7*73:=Nat.mul_le_mul hn (by omega);have h2:n*(c+4)<=7*74:=Nat.mul_le_mul hn (by omega);omega
theorem aZq {M X B:Nat} {z:List Rat × Rat} (h:vR M X z) (hB:1<=B) (hX:6*X<=29*B):aH (aM z.1 z.2) B=true:=h.cb.sz hB (by omega)
theorem aT2 {p:List Rat} {c n:Nat} (hp:Pk p c n) (hn:n<=7) (hc:c<=70) (hc2:4<=c) (h0:p≠[]) :
  ∃ F L l,kI 100000 p=some F/\aI F=F/\F≠[]/\aG F=1/\F.length<=7/\Cb F 1099/\lY 100000 p=some L/\L.length<=7/\(∀ z∈L,vR 7 378000 z)/\L.map (fun z=>aM z.1 z.2)=F::l/\jU 100000 F (bN F) l /\
   aD Tryz.prog 19 [PL p 100000] (.one (jV (F::l) 100000))/\aD Tryz.prog 93 [PL p 100000] (.one (jV (F::l) 100000)):=by
 obtain⟨G,U,R,f1,f2,f3,f4,f5,f6,f7,f8,f9,f10,f11⟩:=aH7 hp (by omega) hc hc2;have hdz:aH (bN p) 100000=true:=(hp.derive 4 (by omega)).sz (by decide) (by omega);have hF:=aK7 hdz f1 f6 f4 f8 f9;obtain⟨hG,G0,gl,tR,hRl,hdiv⟩:=f10 h0;have hr:=aH8 f3 tR hG.1 hdiv hRl;have hpU:∀ x,ev p x=ev U x*ev G x:=fun x=>by rw[hdiv,hr,ev,Rat.add_zero]
 have hU0:U≠[]:=by
  rintro rfl;exact uO hp.tr h0 (rD fun x=>by rw[hpU,ev,Rat.zero_mul])
 obtain⟨m1,m2,m3,_⟩:=qH f7 hU0;have hF0:aY U≠[]:=fun e=>by rw[e,List.length_nil] at m2; exact hU0 (List.eq_nil_of_length_eq_zero m2.symm)
 have hdv:Dv U p:=⟨G,fun x=>by rw[hpU,Rat.mul_comm]⟩
 have hlen:=(nI f7 hp.tr h0 hdv).2.1;have hpl:=hp.len;have h7:(7:Nat)<=2^c:=Nat.le_trans (by decide:7<=2^4) (eJ hc2);have hcF:Cb (aY U) 1099:=(aLf hp.tr h0 hp.cb hpl (by omega) f7 hdv).mono (aX2 hc hn);obtain⟨L,e1,e2,e3,l,e4,e5⟩:=aV7 (B:=100000) (M:=7) (c:=1099) (X:=378000) (by decide) hF m1 hF0 (by omega) (by decide) hcF (by decide) (by decide) (by decide);have hll:l.length<=1000:=by
  have:=congrArg List.length e4;simp only[List.length_map,List.length_cons] at this;omega
 refine⟨aY U,L,l,hF,m1,hF0,m3,by omega,hcF,e1,e2,e3,e4,e5,?_,?_⟩
 ·have:=aJ3 p L 100000 (by decide) (by omega) e1 (by omega) (fun z hz=>by have:=(e3 z hz).len; omega) fun z hz=>aZq (e3 z hz) (by decide) (by decide);rwa[e4] at this
 ·exact aQr p (aY U) l 100000 (by decide) (by decide) h0 (by omega) (aRk p G U R 100000 (by decide) (by decide) (by omega) hp.tr hdz f2 f3 (by omega) f5 f6 f7 (by omega) f9) (by omega) e5 hll
def gS:List Rat:=[2,-3,0,1]
def lX:List (List Rat × Rat):=[([-2,1,1],1),([1,2],1),([1],9/4)]
theorem aF5:lY 100000 gS=some lX:=by decide +kernel
theorem aV2:iO gS=4:=by decide +kernel
theorem bAc:∀ z∈lX,aH (aM z.1 z.2) 100000=true:=by decide +kernel
theorem aF4 {x:Rat} (hx:aH [x] 6=true):fM (lX.map (·.1)) x 100000 6:=by
 refine⟨by decide,by decide,by decide,by decide,hx,fun p hp=>?_⟩;have h:∀ p∈lX.map (·.1),(decide (p.length<=1000000)&&(aH p 100000&&decide (iD 100000 6 p.length<=1000000)))=true:=by decide +kernel
 have:=h p hp;rw[Bool.and_eq_true,Bool.and_eq_true,decide_eq_true_eq,decide_eq_true_eq] at this;exact⟨this.1,this.2.1,this.2.2⟩
theorem aEc (a b:Int) (n:Int) (ha:aH [Rat.divInt a 1] 6=true) (hb:aH [Rat.divInt b 1] 6=true) (hn:fV (lX.map (·.1)) (Rat.divInt a 1) (Rat.divInt b 1)=n):aD Tryz.prog 21 [PL gS 100000,RT (Rat.divInt a 1) 6,RT (Rat.divInt b 1) 6] (.one (.v (.int .i64 n))):=by
 rw[<- hn];exact zP gS lX (Rat.divInt a 1) (Rat.divInt b 1) 100000 6 (by decide) (by decide) aF5 (by decide) (aF4 ha) (aF4 hb)
theorem aTr:aD Tryz.prog 21 [PL gS 100000,RT (Rat.divInt (-3) 1) 6,RT (Rat.divInt 3 1) 6] (.one (.v (.int .i64 2))):=aEc (-3) 3 2 (by decide +kernel) (by decide +kernel) (by decide +kernel)
theorem aTq:aD Tryz.prog 21 [PL gS 100000,RT (Rat.divInt (-2) 1) 6,RT (Rat.divInt 1 1) 6] (.one (.v (.int .i64 1))):=aEc (-2) 1 1 (by decide +kernel) (by decide +kernel) (by decide +kernel)
theorem aTp:aD Tryz.prog 21 [PL gS 100000,RT (Rat.divInt 1 1) 6,RT (Rat.divInt 5 1) 6] (.one (.v (.int .i64 0))):=aEc 1 5 0 (by decide +kernel) (by decide +kernel) (by decide +kernel)
theorem aV1:aD Tryz.prog 19 [PL gS 100000] (.one (jV [[-2,1,1],[1,2],[9/4]] 100000)):=by
 have h:=aJ3 gS lX 100000 (by decide) (by decide) aF5 (by decide) (fun z hz=>(show ∀ z∈lX,z.1.length<=1000000 by decide +kernel) z hz) bAc;have e:lX.map (fun e=>aM e.1 e.2)=[[-2,1,1],[1,2],[9/4]]:=by decide +kernel
 rwa[e] at h
set_option maxRecDepth 100000
def pS (p q:List Rat) (l:List (List Rat)) (lo hi:Rat):Bool :=
 if p.length=0 then true else if eV lo hi>0 then true else if eV lo hi=0 then decide (bP (ev p lo) >= 0)
 else if (if bP (ev q hi)=0 then fV l lo hi-1 else fV l lo hi)=0 then decide (bP (ev q (nP lo hi))>0) else false
section
variable (p q:List Rat) (L:List (List Rat × Rat)) (lo hi:Rat) (B K:Nat) (hB:B<=300000) (hp:p.length<=1000000) (hq:q.length<=1000000) (hodd:aD Tryz.prog 155 [PL p B] (.one (PL q B))) (h:lY B q=some L) (hL:L.length<=1000000) (hm:aH [nP lo hi] K=true) (p1:fM [p] lo B K) (q2:fM [q] hi B K) (q3:fM [q] (nP lo hi) B K) (l1:fM (L.map (·.1)) lo B K) (l2:fM (L.map (·.1)) hi B K)
include hB hp hq hodd h hL hm p1 q2 q3 l1 l2
theorem aT6:aD Tryz.prog 85 [PL p B,RT lo K,RT hi K] (.one (.v (.bool (pS p q (L.map (·.1)) lo hi)))):=by
 obtain⟨hBm,hK,hB1,hK1,sl,pall⟩:=p1;obtain⟨_,_,_,_,sh,qall⟩:=q2;obtain⟨_,_,_,_,sm,_⟩:=q3;obtain⟨_,pz,pb⟩:=pall p List.mem_cons_self;obtain⟨_,qz,qb⟩:=qall q List.mem_cons_self;have b1:=lM lo (L.map (·.1));have b2:=lM hi (L.map (·.1));have bl:(L.map (·.1)).length=L.length:=List.length_map _;have bc : -1000000<=fV (L.map (·.1)) lo hi/\fV (L.map (·.1)) lo hi<=1000000:=by unfold fV; split<;>omega
 refine aD.of (n:=50) Tryz.func85 rfl rfl rfl rfl rfl fun cx hfr=>?_;refine sr rfl ?_;refine p2 (cC (i:=0)) ?_;refine p2 (cC (i:=1)) ?_;refine xn ?_;refine RV.done (sr rfl ?_);refine p1 (aJ aC) ?_;refine p1 (aJ aC) ?_;refine xd rfl (aCg lo hi K K (by omega) (by omega)) Tryz.func72 (xb rfl rfl) hfr ?_;refine xn ?_;refine RV.done ?_;refine CV.seq ?_;refine CV.block ?_;refine sr rfl ?_;refine xm ?_;refine p1 (bL aV bE) ?_;refine p1 (cW) ?_;refine xm ?_;refine RV.bool (fun c1=>?_) (fun c1=>?_)
 ·refine xk ?_;refine xk ?_;refine p1 (cX) ?_;refine xn ?_;refine RV.done ?_;refine CV.yes rfl ?_;refine sr rfl ?_;refine xn ?_;refine RV.done ?_;refine CV.ret ?_;have e1:p.length=0:=(by simpa using c1)
  exact aS rfl (.inr rfl) rfl (gB (by rw[pS,if_pos e1]))
 ·refine y1 (cB (.inl rfl)) ?_;refine y1 (gC) ?_;refine p1 (eI) ?_;refine xn ?_;refine RV.done ?_;refine CV.cond rfl (fun c2=>?_) (fun c2=>?_)
  ·refine sr rfl ?_;refine xn ?_;refine RV.done ?_;refine CV.ret ?_;have e1:¬ p.length=0:=(by simpa using c1)
   have e2:=of_decide_eq_true c2;exact aS rfl (.inr rfl) rfl (gB (by rw[pS,if_neg e1,if_pos e2]))
  ·refine sr rfl ?_;refine xm ?_;refine p1 (cW) ?_;refine xn ?_;refine RV.done ?_;refine CV.cond rfl (fun c3=>?_) (fun c3=>?_)
   ·refine sr rfl ?_;refine xm ?_;refine p1 (aJ aC) ?_;refine xc (wW p lo B K hp hBm hK hB1 hK1 pz sl pb) Tryz.func81 (xb rfl rfl) hfr ?_;refine p1 (qX) ?_;refine xn ?_;refine RV.done ?_;refine CV.ret ?_;have e1:¬ p.length=0:=(by simpa using c1)
    have e2:=of_decide_eq_false c2;have e3:eV lo hi=0:=(by simpa using c3)
    exact aS rfl (.inr rfl) rfl (gB (by rw[pS,if_neg e1,if_neg e2,if_pos e3]))
   ·refine CV.skip ?_;refine sr rfl ?_;refine xm ?_;refine p1 (cG hodd rfl rfl bd Tryz.func155 rfl rfl (xa rfl) rfl hfr rfl) ?_;refine xn ?_;refine RV.done (sr rfl ?_);refine xm ?_;refine p1 (aJ aC) ?_;refine p1 (aJ aC) ?_;refine xc (zP q L lo hi B K hB hq h hL l1 l2) Tryz.func21 (.cons rfl cT.any (xb rfl rfl)) hfr ?_;refine xn ?_;refine RV.done ?_;refine CV.seq ?_;refine sr rfl ?_;refine xm ?_;refine p1 (aJ aC) ?_;refine xc (wW q hi B K hq hBm hK hB1 hK1 qz sh qb) Tryz.func81 (xb rfl rfl) hfr ?_;refine p1 (cW) ?_;refine RV.done ?_;refine CV.cond rfl (fun c4=>?_) (fun c4=>?_)
    ·refine CV.region rfl (fun h=>nomatch h) ?_;refine xm ?_;refine p1 (dU (c:=fV (L.map (·.1)) lo hi-1) (bV (by omega) (by omega)) rfl rfl bd rfl rfl) ?_;refine xn ?_;refine RV.done (sr rfl ?_);refine xm ?_;refine p1 (cW) ?_;refine xm ?_;refine RV.bool (fun c5=>?_) (fun c5=>?_)
     ·refine y1 (cB (.inl rfl)) ?_;refine y1 (aJ aC) ?_;refine y1 (aJ aC) ?_;refine y1 (cG ((aCy lo hi K K (by omega) (by omega)).mono (fun _ _ _ _ h=>h) (eQ hm)) rfl rfl bd Tryz.func94 rfl rfl (xb rfl rfl) rfl hfr rfl) ?_;refine y1 (cG (wW q (nP lo hi) B K hq hBm hK hB1 hK1 qz sm qb) rfl rfl bd Tryz.func81 rfl rfl (xb rfl rfl) rfl hfr rfl) ?_;refine y1 (gC) ?_;refine p1 (cX) ?_;refine xn ?_;refine RV.done ?_;refine CV.ret ?_;have e1:¬ p.length=0:=(by simpa using c1)
      have e2:=of_decide_eq_false c2;have e3:¬ eV lo hi=0:=(by simpa using c3)
      have e4:bP (ev q hi)=0:=(by simpa using c4)
      have e5:fV (L.map (·.1)) lo hi-1=0:=(by simpa using c5)
      exact aS rfl (.inr rfl) rfl (gB (by rw[pS,if_neg e1,if_neg e2,if_neg e3,if_pos e4,if_pos e5]))
     ·refine xk ?_;refine xk ?_;refine xk ?_;refine xk ?_;refine xk ?_;refine xk ?_;refine p1 (eI) ?_;refine xn ?_;refine RV.done ?_;refine CV.ret ?_;have e1:¬ p.length=0:=(by simpa using c1)
      have e2:=of_decide_eq_false c2;have e3:¬ eV lo hi=0:=(by simpa using c3)
      have e4:bP (ev q hi)=0:=(by simpa using c4)
      have e5:¬ fV (L.map (·.1)) lo hi-1=0:=(by simpa using c5)
      exact aS rfl (.inr rfl) rfl (gB (by rw[pS,if_neg e1,if_neg e2,if_neg e3,if_pos e4,if_neg e5]))
    ·refine CV.skip ?_;refine sr rfl ?_;refine xm ?_;refine p1 (cW) ?_;refine xm ?_;refine RV.bool (fun c5=>?_) (fun c5=>?_)
     ·refine y1 (cB (.inl rfl)) ?_;refine y1 (aJ aC) ?_;refine y1 (aJ aC) ?_;refine y1 (cG ((aCy lo hi K K (by omega) (by omega)).mono (fun _ _ _ _ h=>h) (eQ hm)) rfl rfl bd Tryz.func94 rfl rfl (xb rfl rfl) rfl hfr rfl) ?_;refine y1 (cG (wW q (nP lo hi) B K hq hBm hK hB1 hK1 qz sm qb) rfl rfl bd Tryz.func81 rfl rfl (xb rfl rfl) rfl hfr rfl) ?_;refine y1 (gC) ?_;refine p1 (cX) ?_;refine xn ?_;refine RV.done ?_;refine CV.ret ?_;have e1:¬ p.length=0:=(by simpa using c1)
      have e2:=of_decide_eq_false c2;have e3:¬ eV lo hi=0:=(by simpa using c3)
      have e4:¬ bP (ev q hi)=0:=(by simpa using c4)
      have e5:fV (L.map (·.1)) lo hi=0:=(by simpa using c5)
      exact aS rfl (.inr rfl) rfl (gB (by rw[pS,if_neg e1,if_neg e2,if_neg e3,if_neg e4,if_pos e5]))
     ·refine xk ?_;refine xk ?_;refine xk ?_;refine xk ?_;refine xk ?_;refine xk ?_;refine p1 (eI) ?_;refine xn ?_;refine RV.done ?_;refine CV.ret ?_;have e1:¬ p.length=0:=(by simpa using c1)
      have e2:=of_decide_eq_false c2;have e3:¬ eV lo hi=0:=(by simpa using c3)
      have e4:¬ bP (ev q hi)=0:=(by simpa using c4)
      have e5:¬ fV (L.map (·.1)) lo hi=0:=(by simpa using c5)
      exact aS rfl (.inr rfl) rfl (gB (by rw[pS,if_neg e1,if_neg e2,if_neg e3,if_neg e4,if_neg e5]))
end
end Vc
end Go.Proofs.YtbaihklbefhgdaaGreat

namespace Go.Proofs.YtbaihklbefhgdaaGreat
open Go.RowKit
open Dg Zn
namespace Vc
theorem aE6 {a:Rat}:a.num<0 ↔ a<0:=by
 have h1:=Rat.num_nonneg (q:=a);have h2:=Rat.not_lt (a:=a) (b:=0);constructor
 ·intro h;refine Classical.byContradiction fun q=>?_;have:=h1.2 (h2.1 q);omega
 ·intro h;refine Classical.byContradiction fun q=>?_;exact h2.2 (h1.1 (by omega)) h
theorem oJ (a:Rat):bP a=if a<0 then -1 else if a=0 then 0 else 1:=by
 unfold bP bA;by_cases h:a<0
 ·rw[if_pos (aE6.2 h),if_pos h]
 ·rw[if_neg (fun q=>h (aE6.1 q)),if_neg h];by_cases h0:a=0
  ·subst h0;rfl
  ·rw[if_neg h0,if_pos];have h1:¬ a.num<0:=fun q=>h (aE6.1 q);have h2:a.num≠0:=fun q=>h0 (Rat.num_eq_zero.1 q);omega
theorem aXb {a t:Rat} (ht:0<t):bP (a*t)=bP a:=by
 have h1:a*t<0 ↔ a<0:=by
  constructor
  ·intro h;refine Classical.byContradiction fun q=>?_;have:=Rat.mul_nonneg (Rat.not_lt.1 q) (Rat.le_of_lt ht);grind
  ·intro h;have:=Rat.mul_pos (a := -a) (by grind) ht;grind
 have h2:a*t=0 ↔ a=0:=by
  constructor
  ·intro h;rcases Rat.mul_eq_zero.1 h with q | q
   ·exact q
   ·grind
  ·intro h;rw[h,Rat.zero_mul]
 rw[oJ,oJ];simp only[h1,h2]
theorem aYg {l l':List (List Rat)} {x x':Rat} (h:(l.map fun p=>bP (ev p x))=l'.map fun p=>bP (ev p x')):bC x l=bC x' l':=by
 rw[aLn,aLn,aBt,aBt];have:nR x l=nR x' l':=by unfold nR; rw[h]
 rw[this]
theorem aLo {M X:Nat} {L:List (List Rat × Rat)} (hL:∀ z∈L,vR M X z) (x:Rat):bC x (L.map (·.1))=bC x (L.map fun z=>aM z.1 z.2):=by
 refine aYg ?_;rw[List.map_map,List.map_map];refine List.map_congr_left fun z hz=>?_;show bP (ev z.1 x)=bP (ev (aM z.1 z.2) x);rw[cD,aXb (hL z hz).pos]
theorem aWd {M X:Nat} {L:List (List Rat × Rat)} (hL:∀ z∈L,vR M X z) (lo hi:Rat):fV (L.map (·.1)) lo hi=fV (L.map fun z=>aM z.1 z.2) lo hi:=by
 unfold fV;rw[aLo hL,aLo hL]
theorem jU.chn {B:Nat} {a b:List Rat} {l:List (List Rat)} (h:jU B a b l) (hd:∀ {a b U R:List Rat},aI a=a->aI b=b->b≠[]->dK B a b=some (U,R)->aI R=R/\∀ x,ev a x=ev U x*ev b x+ev R x):nS a b l:=by
 induction h with
 | nil a=>exact .nil a
 | @cons a b U R l ta za tb b0 zb hdiv hl zR hr ih =>
  obtain⟨tR,hev⟩:=hd ta tb b0 hdiv;have hsl:=mF R (-1);refine nS.cons (r:=aM R (-1)) tb b0 (cK _) (by omega) ⟨U,fun x=>?_⟩ ih;rw[cD,hev x];grind
end Vc
end Go.Proofs.YtbaihklbefhgdaaGreat

namespace Go.Proofs.YtbaihklbefhgdaaGreat
open Go.RowKit
open Go.Lib (hid)
open Dg Zn
namespace Vc
theorem aM5 {B:Nat} {q:List Rat} (h0:aG q≠0) (hq:0<q.length):∀ {n:Nat} {u:List (Option Rat)} {r:List Rat} {X:List (Option Rat) × List Rat},aI r=r->(q.length<=r.length->∀ i,i<=r.length-q.length->u.getD i none=none)->r.length+1-q.length<=u.length->iY B q n u r=some X ->
  aI X.2=X.2/\∀ x,ev (dA u) x*ev q x+ev r x=ev (dA X.1) x*ev q x+ev X.2 x
 | 0,_,_,_,_,_,_,h=>nomatch h
 | n+1,u,r,X,tr,hun,hul,h=>by
  rw[iY] at h;split at h
  ·rename_i hl;split at h
   ·have hlen:=aAn r q (aG r/aG q);have hsu:r.length-q.length<u.length:=by omega
    have hlr:aG r=aG r/aG q*aG q:=by
     rw[Rat.div_def,Rat.mul_assoc,Rat.inv_mul_cancel _ h0,Rat.mul_one]
    obtain⟨k1,k2⟩:=aM5 h0 hq (zW _ _ _) (fun _ i hi=>by
     rw[uQ hsu,if_neg (by omega)];exact hun hl i (by omega)) (by rw[List.length_set]; omega) h
    refine⟨k1,fun x=>?_⟩;rw[<- k2,aFd hsu (hun hl _ (Nat.le_refl _)),aBe hl hq hlr];grind
   ·cases h
  ·injection h with h;subst h;exact⟨tr,fun x=>rfl⟩
theorem aYd {B:Nat} {a b U R:List Rat} (ta:aI a=a) (tb:aI b=b) (b0:b≠[]) (h:dK B a b=some (U,R)):aI R=R/\∀ x,ev a x=ev U x*ev b x+ev R x:=by
 unfold dK at h;rw[if_neg b0] at h;obtain⟨X,h1,h2⟩:=Option.map_eq_some_iff.1 h;obtain⟨rfl,rfl⟩:=Prod.mk.inj h2;have hb:0<b.length:=Nat.pos_of_ne_zero fun e=>b0 (List.eq_nil_of_length_eq_zero e);obtain⟨k1,k2⟩:=aM5 (eO tb b0) hb ta (fun _ i _=>by
  rw[List.getD_eq_getElem?_getD,List.getElem?_replicate];split<;>rfl) (by rw[List.length_replicate]; omega) h1
 refine⟨k1,fun x=>?_⟩;have h3:=k2 x;have h4:ev (dA (List.replicate (a.length+1-b.length) (none:Option Rat))) x=0:=by
  rw[oH (fun k=>zL _ k)]
 rw[h4,Rat.zero_mul,Rat.zero_add] at h3;exact h3
theorem aXi {B:Nat} {a b:List Rat} {l:List (List Rat)} (h:jU B a b l):nS a b l:=h.chn fun ta tb b0 hd=>aYd ta tb b0 hd
/-! What aB1 answers,told without reckoning. -/
def mV (p F:List Rat):Prop:=aI F=F/\F≠[]/\aG F=1/\∃ G,aI G=G/\G≠[]/\aG G=1/\cQ p (bN p) G/\∃ c:Rat,c≠0/\∀ x,ev p x=c*ev F x*ev G x
theorem aYh {p:List Rat} {c n:Nat} (hp:Pk p c n) (hn:n<=7) (hc:c<=70) (hc2:4<=c) (h0:p≠[]):∃ F,kI 100000 p=some F/\mV p F:=by
 obtain⟨G,U,R,f1,f2,f3,f4,f5,f6,f7,f8,f9,f10,f11⟩:=aH7 hp (by omega) hc hc2;have hdz:aH (bN p) 100000=true:=(hp.derive 4 (by omega)).sz (by decide) (by omega);have hF:=aK7 hdz f1 f6 f4 f8 f9;obtain⟨hG,G0,gl,tR,hRl,hdiv⟩:=f10 h0;have hr:=aH8 f3 tR hG.1 hdiv hRl;have hpU:∀ x,ev p x=ev U x*ev G x:=fun x=>by rw[hdiv,hr,ev,Rat.add_zero]
 have hU0:U≠[]:=by
  rintro rfl;exact uO hp.tr h0 (rD fun x=>by rw[hpU,ev,Rat.zero_mul])
 obtain⟨m1,m2,m3,a,ha,hm⟩:=qH f7 hU0;have hF0:aY U≠[]:=fun e=>by rw[e,List.length_nil] at m2; exact hU0 (List.eq_nil_of_length_eq_zero m2.symm)
 have hi:=Rat.mul_inv_cancel a ha;have hn:a⁻¹≠0:=fun e=>by rw[e,Rat.mul_zero] at hi; exact absurd hi (by decide)
 refine⟨aY U,hF,m1,hF0,m3,G,f3,G0,gl,hG,a⁻¹,hn,fun x=>?_⟩;rw[hpU,hm];grind
theorem aO3:∀ l:List Rat,∃ m:Int,m≠0/\∃ e,Cm m l e
 | []=>⟨1,by decide,0,fun k=>⟨0,by rw[dI (Nat.zero_le _),Rat.zero_mul]; rfl,Nat.zero_le _⟩⟩
 | a::l=>by
  obtain⟨m,hm,e,h⟩:=aO3 l;have hd:((a.den:Nat):Int)≠0:=by have:=a.den_pos; omega
  have ha:a*((a.den:Int):Rat)=(a.num:Rat):=by
   have h1:=Rat.num_divInt_den a;rw[Rat.divInt_eq_div,Rat.div_def] at h1;have h2:=Rat.mul_inv_cancel _ (nD hd);have h3:(a.num:Rat)*((a.den:Int):Rat)⁻¹*((a.den:Int):Rat)=(a.num:Rat):=by grind
   rw[h1] at h3;exact h3
  refine⟨m*a.den,Int.mul_ne_zero hm hd,max (e+a.den) (a.num*m).natAbs,fun k=>?_⟩;cases k with
  | zero =>
   refine⟨a.num*m,?_,Nat.le_trans (Nat.le_of_lt Nat.lt_two_pow_self) (eJ (Nat.le_max_right _ _))⟩;show a*_=_;rw[Rat.intCast_mul,Rat.intCast_mul,<- ha]; grind
  | succ k =>
   obtain⟨z,z1,z2⟩:=h k;refine⟨z*a.den,?_,?_⟩
   ·show l.getD k 0*_=_;rw[Rat.intCast_mul,Rat.intCast_mul,<- z1]; grind
   ·rw[Int.natAbs_mul,Int.natAbs_natCast];refine Nat.le_trans (Nat.mul_le_mul z2 (Nat.le_of_lt Nat.lt_two_pow_self)) ?_;rw[<- Nat.pow_add];exact eJ (Nat.le_max_left _ _)
theorem aO4 (l:List Rat):∃ c,Cb l c:=by
 obtain⟨m,hm,e,h⟩:=aO3 l;exact⟨max e m.natAbs,m,hm,Nat.le_trans (Nat.le_of_lt Nat.lt_two_pow_self) (eJ (Nat.le_max_right _ _)),h.mono (Nat.le_max_left _ _)⟩
theorem aOd {p q:List Rat} (tp:aI p=p) (tq:aI q=q) (h0:p≠[]\/q≠[]):∃ G,aI G=G/\G≠[]/\aG G=1/\cQ p q G:=by
 obtain⟨c,hc⟩:=aO4 p;obtain⟨d,hd⟩:=aO4 q;obtain⟨M,hM⟩:∃ M,M=max p.length q.length:=⟨_,rfl⟩
 obtain⟨X,hX⟩:∃ X,X=pY p q c d*5^M:=⟨_,rfl⟩
 obtain⟨G,e,_,g2,g3,g4,g5,_⟩:=aJk (B:=X+c+d+1) (M:=M) (Q:=pY p q c d) (by omega) tp tq h0 (by omega) (by omega) hc hd (by omega) (by omega) (Nat.le_refl _) (by
  rw[<- hX];have h1:1<=2^(M-1):=Nat.one_le_two_pow;have h2:1*(29*(X+c+d+1))<=5*5*2^(M-1)*(29*(X+c+d+1)):=Nat.mul_le_mul_right _ (by omega);omega)
 exact⟨G,g3,g2,g4,g5⟩
theorem aFw {p q:List Rat} (tp:aI p=p) (tq:aI q=q) (p0:p≠[]) (q0:q≠[]):bD p q≠[]:=by
 obtain⟨m1,_⟩:=uS tp tq p0 q0;intro e;rw[e,List.length_nil] at m1;have:=List.length_pos_iff.2 p0;have:=List.length_pos_iff.2 q0;omega
theorem mV.sep {p F:List Rat} (h:mV p F):cQ F (bN F) [1]:=by
 obtain⟨t,n,l,G,tG,nG,lG,hG,c,hc,he⟩:=h;obtain⟨H,tH,H0,lH,hH⟩:=aOd (cK (aM F c)) (cK (bN (aM F c))) (.inl (by
  intro e;exact aKg t n hc (by rw[<- e]; exact(cK _).symm)))
 have hs:aI (aM F c)=aM F c:=cK _;have hs2:aI (bN (aM F c))=bN (aM F c):=cK _;rw[hs,hs2] at hH;have hone:=aTc (f:=aM F c) hG tG nG (fun x=>by rw[cD,he]; grind) tH H0 hH lH;subst hone;have hi:=Rat.mul_inv_cancel c hc;refine(cQ.left hc (fun x=>?_) hH).right hc fun x=>?_
 ·rw[cD,Rat.mul_comm]
 ·rw[jH,jH,aDm,Rat.mul_comm]
theorem aZ5 {h:List Rat} (th:aI h=h) (h2:2<=h.length) (k:Nat):aI (pL h k)≠[]:=by
 obtain⟨t1,t2⟩:=aA8 th h2 k;rw[t1];intro e;rw[e,List.length_nil] at t2;omega
section
variable {F G D:List Rat} {c:Rat} (hc:c≠0) (hD:∀ x,c*(ev F x*bI G x)=ev G x*(ev D x-c*bI F x))
include hc hD
theorem aO6 {r W a b d e:List Rat} (tr:aI r=r) (r2:2<=r.length) (hr:∀ x,ev G x=ev W x*ev r x) (hab:∀ x,(1:Rat)=ev a x*ev r x+ev b x*ev F x) (hde:∀ x,(1:Rat)=ev d x*ev r x+ev e x*bI r x):∀ k,Dv (pL r (k+1)) G
 | 0=>⟨W,fun x=>by show _=_*ev (bD [1] r) x; rw[cM,hr]; show _=_*(((1:Rat)+x*0)*_); grind⟩
 | k+1=>by
  obtain⟨Gk,hk⟩:=aO6 tr r2 hr hab hde k;have h3:∀ x,bI G x=bI Gk x*ev (pL r (k+1)) x+ev Gk x*bI (pL r (k+1)) x:=qU hk;obtain⟨n,hn⟩:∃ n:Rat,n=((k+1:Nat):Rat):=⟨_,rfl⟩
  have e1:∀ x,ev (aM (bD (bD F Gk) (bN r)) (c*n)) x=ev (bD r (fJ (bD Gk (fJ D (aM (bN F) c))) (aM (bD F (bN Gk)) c))) x:=aOm (aZ5 tr r2 (k+1)) fun x=>by
   simp only[fP,cM,cD,lO,jH];have e4:=aF8 r x (k+1);have e5:=hD x;rw[h3,hk] at e5;rw[<- hn] at e4;generalize ev (pL r (k+1)) x=P at *;generalize bI (pL r (k+1)) x=P' at *;have e6:ev F x*ev Gk x*(ev r x*P')=ev F x*ev Gk x*(n*P*bI r x):=by rw[e4]
   grind
  have hk0:c*n≠0:=by
   intro h;rcases Rat.mul_eq_zero.1 h with h | h
   ·exact hc h
   ·rw[hn] at h;have:(((k+1:Nat):Int):Rat)=((0:Int):Rat):=by
     rw[Rat.intCast_natCast]; exact h
    have:=Rat.intCast_inj.1 this;omega
  have hi:=Rat.mul_inv_cancel _ hk0;obtain⟨i,hiv⟩:∃ i,i=(c*n)⁻¹:=⟨_,rfl⟩
  rw[<- hiv] at hi;obtain⟨Y,hY⟩:∃ Y,Y=aM (fJ (bD Gk (fJ D (aM (bN F) c))) (aM (bD F (bN Gk)) c)) i:=⟨_,rfl⟩
  have e2:∀ x,ev F x*ev Gk x*bI r x=ev r x*ev Y x:=fun x=>by
   have e3:=e1 x;rw[hY];simp only[fP,cM,cD,lO,jH] at e3 |-;grind
  refine⟨eD (eD (bD Gk (bD a (eD (bD d r) (bD e (bN r))))) (bD Gk (bD (bD b F) d))) (bD (bD b e) Y),fun x=>?_⟩;have e3:=hab x;have e4:=hde x;have e5:=e2 x;show _=_*ev (bD (pL r (k+1)) r) x;rw[hk];simp only[fP,cM,jH];have e6:ev Gk x=(ev Gk x*(ev a x*(ev d x*ev r x+ev e x*bI r x))+ev Gk x*(ev b x*ev F x*ev d x)+ev b x*ev e x*ev Y x)*ev r x:=by
   have e7:ev Gk x=ev Gk x*((ev a x*ev r x+ev b x*ev F x)*(ev d x*ev r x+ev e x*bI r x)):=by rw[<- e3,<- e4,Rat.mul_one,Rat.mul_one]
   have e8:ev b x*ev e x*(ev F x*ev Gk x*bI r x)=ev b x*ev e x*(ev r x*ev Y x):=by rw[e5]
   grind
  generalize ev Gk x*(ev a x*(ev d x*ev r x+ev e x*bI r x))+ev Gk x*(ev b x*ev F x*ev d x)+ev b x*ev e x*ev Y x=Z at e6 |-;rw[e6];grind
end
theorem vE (x:Rat):ev [(1:Rat)] x=1:=by show (1:Rat)+x*0=1; grind
theorem aFk {p q:List Rat} (h:cQ p q [1]):∃ a b:List Rat,∀ x,(1:Rat)=ev a x*ev p x+ev b x*ev q x:=by
 obtain⟨_,_,a,b,h⟩:=h;exact⟨a,b,fun x=>by rw[<- h,vE]⟩
theorem mV.parts {w F:List Rat} (h:mV w F):∃ (G D:List Rat) (c:Rat),c≠0/\aI G=G/\G≠[]/\(∀ x,ev w x=c*ev F x*ev G x)/\(∀ x,bI w x=ev D x*ev G x)/\∀ x,c*(ev F x*bI G x)=ev G x*(ev D x-c*bI F x):=by
 obtain⟨t,n,l,G,tG,nG,lG,hG,c,hc,he⟩:=h;obtain⟨_,⟨D,hD⟩,_⟩:=hG;have hD':∀ x,bI w x=ev D x*ev G x:=fun x=>by rw[<- jH,hD]
 refine⟨G,D,c,hc,tG,nG,he,hD',fun x=>?_⟩;have h1:bI w x=bI (aM F c) x*ev G x+ev (aM F c) x*bI G x:=qU (fun y=>by rw[cD,he]; grind) x;rw[hD',aDm,cD] at h1;grind
theorem aUm {h G:List Rat} (th:aI h=h) (h2:2<=h.length) (tG:aI G=G) (G0:G≠[]) {k:Nat} (hk:G.length<=k) (hd:Dv (pL h k) G):False:=by
 obtain⟨t1,t2⟩:=aA8 th h2 k;have:=(nI t1 tG G0 hd).2.1;omega
theorem aY4 {w F S:List Rat} (h:mV w F) (tS:aI S=S) (S0:S≠[]) (sep:cQ S (bN S) [1]) (hS:Dv S w):Dv S F:=by
 obtain⟨G,D,c,hc,tG,nG,he,hD',hD⟩:=h.parts;obtain⟨t,n,l,_⟩:=h;obtain⟨g,tg,g0,lg,hg⟩:=aOd tS t (.inl S0);obtain⟨⟨r0,hr0⟩,⟨v,hv⟩,a0,b0,hab0⟩:=hg;obtain⟨r,hrr⟩:∃ r,r=aI r0:=⟨_,rfl⟩
 have tr:aI r=r:=by rw[hrr]; exact cK _
 have hr:∀ x,ev S x=ev r x*ev g x:=fun x=>by rw[hrr,kC,hr0]
 have rne:r≠[]:=by
  rintro rfl;exact uO tS S0 (rD fun x=>by rw[hr,ev,Rat.zero_mul])
 rcases Nat.lt_or_ge r.length 2 with h2 | h2
 ·have h1:r.length=1:=by have:=List.length_pos_iff.2 rne; omega
  obtain⟨z,rfl⟩:=List.length_eq_one_iff.1 h1;have hz:z≠0:=by
   have:=eO tr rne;exact this
  have hi:=Rat.mul_inv_cancel z hz;refine⟨aM v z⁻¹,fun x=>?_⟩;have e:ev [z] x=z:=by show z+x*0=z; grind
  rw[hv,cD,hr,e];have:ev v x*z⁻¹*(z*ev g x)=ev v x*ev g x*(z*z⁻¹):=by grind
  rw[this,hi,Rat.mul_one]
 ·exfalso;obtain⟨u,v2,huv⟩:=aFk sep;obtain⟨w1,hw1⟩:=hS;have hS':∀ x,ev (bN S) x=bI r x*ev g x+ev r x*bI g x:=fun x=>by rw[jH]; exact qU hr x
  have hi:=Rat.mul_inv_cancel c hc;have hde:∀ x,(1:Rat)=ev (eD (bD u g) (bD v2 (bN g))) x*ev r x+ev (bD v2 g) x*bI r x:=fun x=>by
   have h1:=huv x;rw[hS',hr] at h1;simp only[fP,cM,jH];grind
  obtain⟨A,hA⟩:∃ A,A=eD (bD u r) (bD v2 (bN r)):=⟨_,rfl⟩
  have eA:∀ x,ev A x=ev u x*ev r x+ev v2 x*bI r x:=fun x=>by rw[hA,fP,cM,cM,jH]
  obtain⟨a,ha⟩:∃ a,a=eD (bD (bD a0 g) A) (bD v2 (bN g)):=⟨_,rfl⟩
  obtain⟨b,hb⟩:∃ b,b=bD b0 A:=⟨_,rfl⟩
  have hab:∀ x,(1:Rat)=ev a x*ev r x+ev b x*ev F x:=fun x=>by
   have h1:=huv x;rw[hS',hr] at h1;have h3:=hab0 x;rw[hr] at h3;rw[ha,hb,fP,cM,cM,cM,cM,jH];have h4:(1:Rat)=ev g x*ev A x+ev r x*(ev v2 x*bI g x):=by rw[eA]; grind
   have h5:ev g x*ev A x=(ev a0 x*(ev r x*ev g x)+ev b0 x*ev F x)*ev A x:=by rw[<- h3]
   rw[h5] at h4;grind
  have hG:∀ x,ev G x=ev (eD (bD G a) (aM (bD b (bD g w1)) c⁻¹)) x*ev r x:=fun x=>by
   have h1:=hab x;have h3:=he x;rw[hw1,hr] at h3;rw[fP,cM,cD,cM,cM];have h4:ev G x=ev G x*(ev a x*ev r x+ev b x*ev F x):=by rw[<- h1,Rat.mul_one]
   have h5:ev b x*(ev g x*ev w1 x)*c⁻¹*ev r x=ev b x*(c*ev F x*ev G x)*c⁻¹:=by rw[<- h3]; grind
   have h6:ev b x*(c*ev F x*ev G x)*c⁻¹=ev b x*ev F x*ev G x*(c*c⁻¹):=by grind
   rw[h6,hi] at h5;grind
  exact aUm tr h2 tG nG (Nat.le_succ _) (aO6 hc hD tr h2 hG hab hde G.length)
def ab (a:Rat):Rat:=if a<0 then -a else a
theorem eZ (a:Rat):0<=ab a:=by unfold ab; split<;>grind
theorem aGk {a b:Rat} (h1:a<=b) (h2 : -b<=a):ab a<=b:=by unfold ab; split<;>grind
theorem pW (a:Rat):a<=ab a /\ -ab a<=a:=by unfold ab; split<;>grind
theorem xV (a b:Rat):ab (a+b)<=ab a+ab b:=by
 obtain⟨h1,h2⟩:=pW a;obtain⟨h3,h4⟩:=pW b;exact aGk (by grind) (by grind)
theorem aOo (a:Rat):ab (-a)=ab a:=by
 unfold ab;split<;>split<;>grind
theorem qB {a:Rat} (h:0<=a):ab a=a:=by unfold ab; split<;>grind
theorem rH {a:Rat} (h:a<=0):ab a = -a:=by unfold ab; split<;>grind
theorem nK (a b:Rat):ab (a*b)=ab a*ab b:=by
 rcases Rat.le_total (a:=0) (b:=a) with ha | ha<;>rcases Rat.le_total (a:=0) (b:=b) with hb | hb
 ·rw[qB ha,qB hb,qB (Rat.mul_nonneg ha hb)]
 ·have h:=Rat.mul_nonneg ha (show 0 <= -b by grind);rw[qB ha,rH hb,rH (by grind)]; grind
 ·have h:=Rat.mul_nonneg (show 0 <= -a by grind) hb;rw[rH ha,qB hb,rH (by grind)]; grind
 ·have h:=Rat.mul_nonneg (show 0 <= -a by grind) (show 0 <= -b by grind);rw[rH ha,rH hb,qB (by grind)]; grind
theorem aFm {a:Rat} (h:ab a<=0):a=0:=by
 obtain⟨h1,h2⟩:=pW a;grind
theorem iT {a b c d:Rat} (ha:0<=a) (hc:0<=c) (h:a<=b) (k:c<=d):a*c<=b*d:=by
 have h1:=Rat.mul_nonneg (show 0<=b-a by grind) hc;have h2:=Rat.mul_nonneg (show 0<=b by grind) (show 0<=d-c by grind);grind
theorem xB {R:Rat} (hR:0<=R):∀ p:List Rat,∃ K,0<=K/\∀ x,ab x<=R->ab (ev p x)<=K
 | []=>⟨0,by grind,fun x _=>by show ab 0<=0; unfold ab; grind⟩
 | a::l=>by
  obtain⟨K,hK,h⟩:=xB hR l;have hn:=Rat.mul_nonneg hR hK;have ha:=eZ a;refine⟨ab a+R*K,by grind,fun x hx=>?_⟩;show ab (a+x*ev l x)<=_;have h1:=xV a (x*ev l x);rw[nK] at h1;have h2:=iT (eZ x) (eZ (ev l x)) hx (h x hx);grind
theorem aBf {R:Rat} (hR:0<=R):∀ p:List Rat,∃ K,0<=K/\∀ x y,ab x<=R->ab y<=R->ab (ev p x-ev p y)<=K*ab (x-y)
 | []=>⟨0,by grind,fun x y _ _=>by show ab (0-0)<=0*_; rw[Rat.zero_mul]; unfold ab; grind⟩
 | a::l=>by
  obtain⟨K,hK,h⟩:=aBf hR l;obtain⟨M,hM,hb⟩:=xB hR l;have hn:=Rat.mul_nonneg hR hK;refine⟨R*K+M,by grind,fun x y hx hy=>?_⟩;show ab (a+x*ev l x-(a+y*ev l y))<=_;have e:a+x*ev l x-(a+y*ev l y)=x*(ev l x-ev l y)+(x-y)*ev l y:=by grind
  rw[e];have h1:=xV (x*(ev l x-ev l y)) ((x-y)*ev l y);rw[nK,nK] at h1;have h2:=iT (eZ x) (eZ (ev l x-ev l y)) hx (h x y hx hy);have h3:=iT (eZ (x-y)) (eZ (ev l y)) (Rat.le_refl (a:=ab (x-y))) (hb y hy);grind
theorem apart {R:Rat} (hR:0<=R) {p q a b:List Rat} (hab:∀ x,(1:Rat)=ev a x*ev p x+ev b x*ev q x):∃ d:Rat,0<d/\∀ x,ab x<=R->ab (ev p x)<d->d<=ab (ev q x):=by
 obtain⟨A,hA,h1⟩:=xB hR a;obtain⟨B,hB,h2⟩:=xB hR b;have hs:(A+B+1)≠0:=by grind
 have hi:=Rat.mul_inv_cancel _ hs;obtain⟨d,hd⟩:∃ d,d=(A+B+1)⁻¹:=⟨_,rfl⟩
 rw[<- hd] at hi;have hd0:0<d:=by
  rcases Rat.le_total (a:=0) (b:=d) with h | h
  ·rcases Rat.le_iff_lt_or_eq.1 h with h | h
   ·exact h
   ·rw[<- h,Rat.mul_zero] at hi; exact absurd hi (by decide)
  ·have:=Rat.mul_nonneg (show 0<=A+B+1 by grind) (show 0 <= -d by grind);grind
 refine⟨d,hd0,fun x hx hp=>?_⟩;rcases Rat.le_total (a:=d) (b:=ab (ev q x)) with h | h
 ·exact h
 ·exfalso;have e1:=hab x;have e2:=xV (ev a x*ev p x) (ev b x*ev q x);rw[<- e1,nK,nK] at e2;have e3:=iT (eZ (ev a x)) (eZ (ev p x)) (h1 x hx) (show ab (ev p x)<=d by grind);have e4:=iT (eZ (ev b x)) (eZ (ev q x)) (h2 x hx) h;have e5:ab 1=1:=by decide +kernel
  rw[e5] at e2;grind
def Wc (e:Int) (x:Rat) (l:List (List Rat)):Int:=(gD x l (0,e)).1
theorem aEj (x:Rat):∀ (l:List (List Rat)) (n e:Int),(gD x l (n,e)).1=n+Wc e x l
 | [],n,e=>by show n=n+0; omega
 | p::l,n,e=>by
  unfold Wc;rw[gD,gD];simp only;rw[aEj x l,aEj x l];split<;>omega
theorem uW (e:Int) (x:Rat) (p:List Rat) (l:List (List Rat)):Wc e x (p::l)=(if bP (ev p x)*e<0 then 1 else 0)+Wc (if bP (ev p x)≠0 then bP (ev p x) else e) x l:=by
 show (gD x (p::l) (0,e)).1=_;rw[gD];simp only;rw[aEj];split<;>rfl
theorem aFj (x:Rat) (l:List (List Rat)):bC x l=Wc 0 x l:=rfl
theorem aY3 {a:Rat}:bP a≠0 ↔ 0<ab a:=by
 rw[oJ];unfold ab;split
 ·grind
 ·split<;>grind
theorem steady {u v n:Rat} (hn:0<n) (h:n<=ab u) (k:ab (u-v)<n):bP u≠0/\bP v=bP u:=by
 refine⟨aY3.2 (by grind),?_⟩;have h1:=pW (u-v);rw[oJ,oJ];unfold ab at h;split at h
 ·rw[if_pos (by grind),if_pos (by assumption)]
 ·rw[if_neg (by grind),if_neg (by grind),if_neg (by assumption),if_neg (by grind)]
theorem opposite {a r w d:Rat} (hd:0<d) (h:d<=ab a) (e:a+r=w) (hw:ab w<d):bP r =-bP a:=by
 have h1:=pW w;rw[oJ,oJ];unfold ab at h;split at h
 ·rw[if_neg (by grind),if_neg (by grind),if_pos (by assumption)]; rfl
 ·rw[if_pos (by grind),if_neg (by assumption),if_neg (by grind)]
theorem uD {K x:Rat} (hK:0<=K) (hx:0<x):∃ m:Rat,0<m/\(K+1)*m<=x:=by
 have hs:K+1≠0:=by grind
 have hi:=Rat.mul_inv_cancel _ hs;obtain⟨i,hii⟩:∃ i,i=(K+1)⁻¹:=⟨_,rfl⟩
 rw[<- hii] at hi;have hi0:0<i:=by
  rcases Rat.le_total (a:=0) (b:=i) with h | h
  ·rcases Rat.le_iff_lt_or_eq.1 h with h | h
   ·exact h
   ·rw[<- h,Rat.mul_zero] at hi; exact absurd hi (by decide)
  ·have:=Rat.mul_nonneg (show 0<=K+1 by grind) (show 0 <= -i by grind);grind
 refine⟨x*i,Rat.mul_pos hx hi0,?_⟩;have:(K+1)*(x*i)=x*((K+1)*i):=by grind
 rw[this,hi,Rat.mul_one];exact Rat.le_refl
theorem pP {x y:Rat} (hx:0<x) (hy:0<y):∃ m:Rat,0<m/\m<=x/\m<=y:=by
 rcases Rat.le_total (a:=x) (b:=y) with h | h
 ·exact⟨x,hx,Rat.le_refl,h⟩
 ·exact⟨y,hy,h,Rat.le_refl⟩
theorem aHz {e k:Int} {x:Rat} {b r:List Rat} {l:List (List Rat)} (he:e=1\/e = -1) (hk:k = -e) (hr:bP (ev r x)=k):Wc e x (b::r::l)=1+Wc k x l:=by
 have hb:=aA7 (ev b x);rw[uW,uW,hr];generalize bP (ev b x)=s at *;have hs:s = -1\/s=0\/s=1:=by omega
 subst hk;rcases he with rfl | rfl<;>rcases hs with rfl | rfl | rfl<;>simp<;>omega
theorem mL {e k:Int} {x:Rat} {b:List Rat} {l:List (List Rat)} (hk:k≠0) (hb:bP (ev b x)=k):Wc e x (b::l)=(if k*e<0 then 1 else 0)+Wc k x l:=by
 rw[uW,hb,if_pos hk]
theorem aRz {a b:List Rat} {l:List (List Rat)} (h:nS a b l) {R:Rat} (hR:0<=R):(∃ u v:List Rat,∀ x,(1:Rat)=ev u x*ev a x+ev v x*ev b x)->∃ h n:Rat,0<h/\0<n/\∀ s t,ab s<=R->ab t<=R->ab (s-t)<=h ->
  (∀ e,e≠0->bP (ev a s)=e->bP (ev a t)=e->Wc e s l=Wc e t l) /\
  (ab (ev a s)<n->∃ k,k≠0/\bP (ev b s)=k/\bP (ev b t)=k/\∀ e,Wc e s l=Wc e t l):=by
 induction h with
 | nil a =>
  rintro⟨u,v,huv⟩;obtain⟨d,hd,hx⟩:=apart (p:=a) (q:=[]) hR huv;refine⟨1,d,by decide,hd,fun s t hs ht _=>⟨fun e _ _ _=>rfl,fun h=>?_⟩⟩;have:=hx s hs h;have e:ab (ev [] s)=0:=by show ab 0=0; decide +kernel
  rw[e] at this;grind
 | @cons a b r l tb b0 tr hl hW hch ih =>
  rintro⟨u,v,huv⟩;obtain⟨W,hW⟩:=hW;obtain⟨h1,n1,hh1,hn1,ih⟩:=ih ⟨eD (bD u W) v,aM u (-1),fun x=>by
   have e1:=huv x;have e2:=hW x;rw[fP,cM,cD];have e3:ev a x=ev W x*ev b x-ev r x:=by grind
   rw[e3] at e1;grind⟩
  obtain⟨d,hd,hba⟩:=apart (p:=b) (q:=a) hR (a:=v) (b:=u) (fun x=>by have:=huv x; grind);obtain⟨d2,hd2,hab⟩:=apart (p:=a) (q:=b) hR huv;obtain⟨M,hM,hMb⟩:=xB hR W;obtain⟨K,hK,hKb⟩:=aBf hR b;obtain⟨n0,hn0,hn0d⟩:=uD hM hd;obtain⟨n,hn,hnn0,hnn1⟩:=pP hn0 hn1;obtain⟨g1,hg1,hg1n⟩:=uD hK hn;obtain⟨g2,hg2,hg2d⟩:=uD hK hd2;obtain⟨g3,hg3,hg31,hg32⟩:=pP hg1 hg2;obtain⟨g,hg,hgh,hg3'⟩:=pP hh1 hg3;have near:∀ (m q:Rat),0<m->m<=g3->∀ s t,ab s<=R->ab t<=R->ab (s-t)<=m->(K+1)*g3<=q->ab (ev b s-ev b t)<q:=fun m q hm hmg s t hs ht hst hq=>by
   have h2:=hKb s t hs ht;have h3:=iT hK (eZ (s-t)) (Rat.le_refl (a:=K)) (show ab (s-t)<=g3 by grind);grind
  have gK1:(K+1)*g3<=n:=by
   have:=iT (show 0<=K+1 by grind) (show 0<=g3 by grind) (Rat.le_refl (a:=K+1)) hg31;grind
  have gK2:(K+1)*g3<=d2:=by
   have:=iT (show 0<=K+1 by grind) (show 0<=g3 by grind) (Rat.le_refl (a:=K+1)) hg32;grind
  refine⟨g,d2,hg,hd2,fun s t hs ht hst=>?_⟩;obtain⟨iA,iB⟩:=ih s t hs ht (by grind);refine⟨fun e he h1 h2=>?_,fun h=>?_⟩
  ·rcases Rat.le_total (a:=n) (b:=ab (ev b s)) with hb | hb
   ·obtain⟨q1,q2⟩:=steady hn hb (near g n hg hg3' s t hs ht hst gK1);rw[mL q1 rfl,mL q1 q2,iA _ q1 rfl q2]
   ·rcases Rat.le_iff_lt_or_eq.1 hb with hb | hb
    ·obtain⟨k,hk,k1,k2,k3⟩:=iB (by grind);have hMn:M*n<d:=by
      have:=iT (show 0<=M+1 by grind) (show 0<=n by grind) (Rat.le_refl (a:=M+1)) hnn0;grind
     have hn_le:n<=d:=by
      have h3:=Rat.mul_nonneg hM (show 0<=n0 by grind);grind
     have ha:d<=ab (ev a s):=hba s hs (by grind);have hop:=opposite hd ha (hW s) (by
      rw[nK];have:=iT (eZ (ev W s)) (eZ (ev b s)) (hMb s hs) (show ab (ev b s)<=n by grind);grind)
     rw[k1,h1] at hop;have hle:=aA7 (ev a s);rw[h1] at hle;have he1:e=1\/e = -1:=by omega
     obtain⟨l2,rfl⟩:∃ l2,l=r::l2:=by
      cases hch with
      | nil _=>exact absurd k1.symm (by show ¬ k=bP 0; intro q; exact hk (by rw[q]; decide +kernel))
      | cons=>exact⟨_,rfl⟩
     rw[aHz he1 hop k1,aHz he1 hop k2];have h3:=k3 k;rw[mL hk k1,mL hk k2] at h3;omega
    ·obtain⟨q1,q2⟩:=steady hn (by grind) (near g n hg hg3' s t hs ht hst gK1);rw[mL q1 rfl,mL q1 q2,iA _ q1 rfl q2]
  ·have hb:=hab s hs h;obtain⟨q1,q2⟩:=steady hd2 hb (near g d2 hg hg3' s t hs ht hst gK2);refine⟨_,q1,rfl,q2,fun e=>?_⟩;rw[mL q1 rfl,mL q1 q2,iA _ q1 rfl q2]
set_option maxRecDepth 100000
theorem aDq {f:Nat->Nat} {x:AV Dm} (h:(x.ptrs.all fun b=>Nat.beq (f b) b)=true):(XV.av x).leR f (.av x):=fun _ _ _ _ hv=>hv.go (Goes.refl _ _) fun b hb=>by rw[Nat.eq_of_beq_eq_true (List.all_eq_true.1 h b hb)]
abbrev ptB (q:List Rat) (B:Nat):Sg Dm:=[(.b 500,.blk 24 [(none,PL q B)])]
theorem aKo (q F Q R:List Rat) (B:Nat) (hB:B<=300000) (hq:q.length<=1000000) (h1:kI B q=some F) (hF:F.length<=1000000) (h2:dK B q F=some (Q,R)):yL Tryz.prog 206 [(.ptr 500 0:SA Dm)] (ptB q B) (.one (PL F B)) (ptB Q B) []:=by
 refine yL.of (n:=12) (by exact List.cons_ne_nil _ _) Tryz.func206 rfl rfl rfl rfl rfl rfl rfl rfl fun cx ρ0 hNI hW hBw=>?_;refine sr rfl ?_;refine xn ?_;refine RV.done (sr rfl ?_);refine p1 (aJ dM) ?_;refine p1 (aKr (hne:=List.cons_ne_nil _ _) hNI hW hBw rfl rfl (aDr q F B hB hq h1) rfl rfl bd Tryz.func148 rfl rfl (xa rfl) rfl rfl) ?_;refine xn ?_;refine RV.done (sr rfl ?_);refine p1 (aJ dM) ?_;refine xm ?_;refine p1 (aKr (hne:=List.cons_ne_nil _ _) hNI hW hBw rfl rfl (aAi q F B hB hq hF h2) rfl rfl bd Tryz.func203 rfl rfl (xb rfl rfl) rfl rfl) ?_;refine xm ?_;refine p1 (cO) ?_;refine p1 (cO) ?_;refine p1 (aQ (dM).2) ?_;refine RV.done (sr rfl ?_);refine xm ?_;refine xn ?_;refine RV.done ?_;refine CV.ret ?_;exact bAa rfl (.inr rfl) rfl ⟨rfl,trivial⟩ (fun _=>rfl) rfl cL
def vL (p q:List Rat):Bool:=decide (0<q.length)&&(decide (p.length<=1000)&&(decide (q.length<=1000)&&(decide (min p.length q.length<=7)&&(aH p 400&&(aH q 400&&aH (tab (nO p q) (p.length+q.length-1)) 400)))))
theorem aKy {p q:List Rat} (B:Nat) (h:vL p q=true) (hz:aH (bD p q) B=true):aD Tryz.prog 33 [PL p B,PL q B] (.one (PL (bD p q) B)):=by
 simp only[vL,Bool.and_eq_true,decide_eq_true_eq] at h;obtain⟨h1,h2,h3,h4,h5,h6,h7⟩:=h;exact(aWs p q 400 7 400 h1 (by omega) (by omega) (by decide) h4 (by decide) h7).mono (fun L ρ w vs hv=>match vs,hv with
  | [_,_],⟨a,b,c⟩=>⟨eR h5 L ρ w _ a,eR h6 L ρ w _ b,c⟩) (eR hz)
def oQ (B:Nat):Nat->List Rat->List Rat->Option (List Rat)
 | 0,_,_=>none
 | n+1,q,o=>if q.length<=1 then (if vL o q&&aH (bD o q) B then some (bD o q) else none) else
  (kI B q).bind fun F=>(dK B q F).bind fun x=>(kI B x.1).bind fun G=>(dK B x.1 G).bind fun y=>(dK B F G).bind fun z =>
   if decide (F.length<=1000000)&&(decide (x.1.length<=1000000)&&(decide (G.length<=1000000)&&(decide (y.1.length<=1000000)&&(vL o z.1&&aH (bD o z.1) B)))) then oQ B n y.1 (bD o z.1) else none
theorem aVk {B n:Nat} {q o r:List Rat} (h:oQ B (n+1) q o=some r) (hq:q.length<=1):vL o q=true/\aH (bD o q) B=true/\r=bD o q:=by
 rw[oQ,if_pos hq] at h;split at h
 ·rename_i hc;rw[Bool.and_eq_true] at hc;exact⟨hc.1,hc.2,(Option.some.inj h).symm⟩
 ·cases h
theorem aTb {B n:Nat} {q o r:List Rat} (h:oQ B (n+1) q o=some r) (hq:¬ q.length<=1):∃ F Q R G Y R' Z R'',kI B q=some F/\dK B q F=some (Q,R)/\kI B Q=some G/\dK B Q G=some (Y,R')/\dK B F G=some (Z,R'')/\F.length<=1000000/\Q.length<=1000000/\G.length<=1000000/\Y.length<=1000000/\vL o Z=true/\aH (bD o Z) B=true/\oQ B n Y (bD o Z)=some r:=by
 rw[oQ,if_neg hq] at h;obtain⟨F,h1,h⟩:=Option.bind_eq_some_iff.1 h;obtain⟨⟨Q,R⟩,h2,h⟩:=Option.bind_eq_some_iff.1 h;obtain⟨G,h3,h⟩:=Option.bind_eq_some_iff.1 h;obtain⟨⟨Y,R'⟩,h4,h⟩:=Option.bind_eq_some_iff.1 h;obtain⟨⟨Z,R''⟩,h5,h⟩:=Option.bind_eq_some_iff.1 h;split at h
 ·rename_i hc;simp only[Bool.and_eq_true,decide_eq_true_eq] at hc;exact⟨F,Q,R,G,Y,R',Z,R'',h1,h2,h3,h4,h5,hc.1,hc.2.1,hc.2.2.1,hc.2.2.2.1,hc.2.2.2.2.1,hc.2.2.2.2.2,h⟩
 ·cases h
theorem aVj {B n:Nat} {q o r:List Rat} (h:oQ B n q o=some r):∃ m,n=m+1:=by
 cases n with
 | zero=>cases h
 | succ m=>exact⟨m,rfl⟩
theorem aXv (p r:List Rat) (B n:Nat) (hB:B<=300000) (hB6:6<=B) (hp:p.length<=1000000) (h:oQ B n p [1]=some r):aD Tryz.prog 155 [PL p B] (.one (PL r B)):=by
 refine aD.of (n:=33) Tryz.func155 rfl rfl rfl rfl rfl fun cx hfr=>?_;refine sr rfl ?_;refine xn ?_;refine RV.done (sr rfl ?_);refine xm ?_;refine p2 (aU (i:=500) aC9) ?_;refine p1 (aQ (dM).2) ?_;refine RV.done (sr rfl ?_);refine p1 (aVh (hne:=List.cons_ne_nil _ _) (ss:=[(.ptr 500 0:SA Dm)]) rfl rfl bd ⟨rfl,trivial⟩) ?_;refine xn ?_;refine RV.done (sr rfl ?_);refine xd rfl (pQ 1 1 (by decide) (by decide) (by decide) (by decide)) Tryz.func74 (xb rfl rfl) hfr ?_;refine p1 (fH (k:=some 4) (G:=Dm.gen (cA (some 4) (bB [Rat.divInt 1 1] 6))) (cS _ _) bE mO rfl rfl rfl (by intro s hs; obtain rfl:=List.mem_singleton.1 hs; rfl) rfl rfl rfl bd (xa rfl)) ?_;refine xn ?_;refine RV.done ?_;refine CV.seq ?_;refine CV.block ?_;have h1:aH [(1:Rat)] 6=true:=(by decide +kernel)
 have e1:Rat.divInt 1 1=(1:Rat):=(by decide +kernel)
 rw[e1];refine CV.loop (X:={z:Nat × List Rat × List Rat // oQ B z.1 z.2.1 z.2.2=some r/\z.2.1.length<=1000000}) (fun z=>[(.s 3,.av (.one (.ptr 500 0))),(.b 500,.blk 24 [(none,PL z.1.2.1 B)]),(.s 4,.av (.one (.lk (fnR 206 [(.ptr 500 0:SA Dm)])))),(.s 5,.av (.one (PL z.1.2.2 B)))]) (fun z=>z.1.1) ⟨(n,p,[1]),h,hp⟩ (aZ.mk ⟨aB _,aB _,aB _,aAg rfl (eR (K:=6) (pH hB6 h1)),trivial⟩ rfl rfl) (fun z=>?_);obtain⟨⟨n,q,o⟩,hz,hql⟩:=z;simp only at hz hql |-;obtain⟨m,rfl⟩:=aVj hz;refine CV.seq ?_;refine sr rfl ?_;refine p1 (aJ dM) ?_;refine xc (qK q B hql) Tryz.func68 (xa rfl) hfr ?_;refine p1 (gC) ?_;refine RV.done ?_;refine CV.cond rfl (fun hc=>?_) (fun hc=>?_)
 ·have hq1:¬ q.length<=1:=(by have:=of_decide_eq_true hc; omega)
  obtain⟨F,Q,R,G,Y,R1,Z,R2,a1,a2,a3,a4,a5,l1,l2,l3,l4,m1,m2,hz2⟩:=aTb hz hq1;refine CV.skip ?_;refine CV.block ?_;refine sr rfl ?_;refine xm ?_;refine p2 (aI9 (nw:=[]) (sas:=[]) (caps:=[(.ptr 500 0:SA Dm)]) (aKo q F Q R B hB hql a1 l1 a2) hfr rfl (cx.wf hfr) Tryz.func206 rfl rfl rfl rfl bd rfl trivial ⟨rfl,trivial⟩ trivial rfl rfl rfl rfl) ?_;refine xm ?_;refine p2 (aI9 (nw:=[]) (sas:=[]) (caps:=[(.ptr 500 0:SA Dm)]) (aKo Q G Y R1 B hB l2 a3 l3 a4) hfr rfl (cx.wf hfr) Tryz.func206 rfl rfl rfl rfl bd rfl trivial ⟨rfl,trivial⟩ trivial rfl rfl rfl rfl) ?_;refine xn ?_;refine xn ?_;refine RV.done (sr rfl ?_);refine xm ?_;refine xm ?_;refine xc (aAi F G B hB l1 l3 a5) Tryz.func203 (xb rfl rfl) hfr ?_;refine xm ?_;refine p1 (cO) ?_;refine p1 (cO) ?_;refine xn ?_;refine xn ?_;refine RV.done ?_;refine CV.region rfl (fun h=>nomatch h) ?_;refine xm ?_;refine xm ?_;refine xc (aKy B m1 m2) Tryz.func33 (xb rfl rfl) hfr ?_;refine xn ?_;refine RV.done ?_;exact⟨⟨(m,Y,bD o Z),hz2,l4⟩,aZ.mk ⟨aB _,aB _,aB _,aB _,trivial⟩ rfl rfl,by show m<m+1; omega⟩
 ·refine CV.exit ?_;refine CV.seq ?_;have hq1:q.length<=1:=(by have:=of_decide_eq_false hc; omega)
  obtain⟨m1,m2,hr⟩:=aVk hz hq1;rw[hr];refine CV.region rfl (fun h=>nomatch h) ?_;refine xm ?_;refine p1 (aJ dM) ?_;refine xc (aKy B m1 m2) Tryz.func33 (xb rfl rfl) hfr ?_;refine xn ?_;refine RV.done ?_;refine CV.ret ?_;exact aS rfl (.inr rfl) rfl cL
theorem aZo:oQ 100000 6 gS [1]=some [2,1]:=by decide +kernel
structure Wd (p w:List Rat):Prop where
 tr:aI w=w
 ne:w≠[]
 dv:Dv w p
 la:aG w=aG p
section
variable {p:List Rat} (hp:Pk p 33 6) (p0:p≠[])
include hp p0
end
def aBv (x:Rat) (K:Nat) (c:Int):rN where
 is:=fun w v=>∃ cs:List Value,v=.agg (cs++[Value.int .i64 c]).toArray/\Dm.at (.rt x.num (qd x) K) w (.agg cs.toArray)
 shape:=some 5
 plain:=false
 ok:=fun w v ⟨cs,h,hc⟩=>by
  subst h;obtain⟨a,n,c',a',n',c'',rfl,_⟩:=iH hc;exact⟨_,rfl,rfl,by simp[Value.oneCell']⟩
 pl:=fun h=>nomatch h
abbrev EG (x:Rat) (K:Nat) (c:Int):SA Dm:=.d (Dm.gen (aBv x K c))
theorem aOg {x:Rat} {K:Nat} {c:Int}:∀ w v,Dm.at (Dm.gen (aBv x K c)) w v->∃ cs:List Value,v=.agg cs.toArray/\cs[4]?=some (.int .i64 c):=by
 rintro w v ⟨cs,h,hc⟩;obtain⟨a,n,c',a',n',c'',rfl,_⟩:=iH hc;exact⟨_,h,rfl⟩
theorem vB {x:Rat} {K:Nat} {c:Int}:mA (Dm.gen (aBv x K c)) 0 (some 4) (RT x K):=by
 rintro w cs ⟨c4,h,hc⟩;obtain rfl:cs=c4++[Value.int .i64 c]:=by simpa using congrArg Array.toList (Value.agg.inj h)
 obtain⟨a,n,c',a',n',c'',e,_⟩:=iH hc;refine⟨[],c4,[Value.int .i64 c],.agg c4.toArray,rfl,rfl,⟨rfl,?_,?_⟩,hc⟩
 ·rw[e]; rfl
 ·rw[e]; simp[Value.oneCell']
theorem rA {x:Rat} {K:Nat} {c:Int}:mA (Dm.gen (aBv x K c)) 4 none (.v (.int .i64 c)):=by
 rintro w cs ⟨c4,h,hc⟩;obtain rfl:cs=c4++[Value.int .i64 c]:=by simpa using congrArg Array.toList (Value.agg.inj h)
 obtain⟨a,n,c',a',n',c'',e,_⟩:=iH hc;exact⟨c4,[Value.int .i64 c],[],.int .i64 c,by simp,by rw[e]; rfl,⟨rfl,rfl⟩,rfl⟩
theorem vC:iK Tryz.prog 105 0 0:=iK.of (sz:=3) (by kernel_rfl)
theorem rB:iK Tryz.prog 105 1 4:=iK.of (sz:=0) (by kernel_rfl)
theorem aN9:aAv Tryz.prog 105 1=some (4,3):=by kernel_rfl
theorem kV:(Tryz.prog.info? 105).map (·.zero)=some (some (.agg #[.bool false,.slice none 0 0,.bool false,.slice none 0 0,.int .i64 0])):=by kernel_rfl
theorem dQ:dL Tryz.prog 105 (some 5):=dL.row (by kernel_rfl) (by kernel_rfl)
theorem xZ:(Tryz.prog.info? 105).map (·.size)=some 5:=by kernel_rfl
theorem iV:Tryz.prog.underlying 147=some (.slice 105):=by kernel_rfl
theorem aWh (parts:List (Nat × Value)):Tryz.prog.built 105 parts=Instr.fill ((#[(0,4),(4,1)]:Array (Nat × Nat))[·]?) #[.bool false,.slice none 0 0,.bool false,.slice none 0 0,.int .i64 0] parts:=by kernel_rfl
section
variable {cx:Cx Dm} {n:Nat} {σ:St Dm} {o:Oper} {d:Nat}
theorem aJa {x y:Operand} {a:Rat} {K:Nat} {c:Int} (ho:o.op=.build 105 #[(0,x),(1,y)]) (hd:o.dst=some d) (hn:d<n) (hx:opd σ x=.av (.one (RT a K))) (hy:opd σ y=.av (.one (.v (.int .i64 c)))):aN Tryz.prog cx n σ o (bH x++bH y) [(.s d,.av (.one (EG a K c)))]:=by
 refine fE hd hn rfl fun σ' ρ ac w h hk=>?_;have h1:=h.opd ((cR fun q hq=>hk q (by simp[hq])).trans hx);have h2:ac.eval y=.int .i64 c:=h.opd ((cR fun q hq=>hk q (by simp[hq])).trans hy);obtain⟨cs,hv⟩:∃ cs:List Value,ac.eval x=.agg cs.toArray:=by
  obtain⟨s,t',e,_⟩:=h1 w (Agree.refl _ _);exact⟨_,e⟩
 have h1':∀ w',Agree (aT cx σ' ρ) w w'->Dm.at (.rt a.num (qd a) K) w' (.agg cs.toArray):=fun w' hag=>by rw[<- hv]; exact h1 w' hag
 obtain⟨b,m,c1,b',m',c',rfl,_⟩:=iH (h1' w (Agree.refl _ _));refine⟨.agg #[.bool (decide (a.num<0)),.slice b m c1,.bool (decide (qd a<0)),.slice b' m' c',.int .i64 c],?_,?_⟩
 ·have hb:Tryz.prog.built 105 #[(0,ac.eval x),(1,ac.eval y)].toList=some #[.bool (decide (a.num<0)),.slice b m c1,.bool (decide (qd a<0)),.slice b' m' c',.int .i64 c]:=by
   rw[hv,h2,aWh]
   kernel_rfl
  have hb2:=run_build w 105 #[(0,ac.eval x),(1,ac.eval y)] _ hb;simp only[execOp,ho,Sem.run_bind];rw[show (#[(0,x),(1,y)]:Array (Nat × Operand)).map (fun p=>(p.1,ac.eval p.2))=#[(0,ac.eval x),(1,ac.eval y)] by simp,hb2];rfl
 ·intro w' hag;exact⟨_,rfl,h1' w' hag⟩
end
abbrev lB (l:List (List Rat)) (B:Nat):SA Dm:=.d (Dm.gen (pG none (jV l B)))
theorem zM (l:List (List Rat)) (x:Rat) (B K:Nat) (hl:l.length<=1000000) (hE:fM l x B K):aD Tryz.prog 158 [RT x K,lB l B] (.one (EG x K (bC x l))):=by
 refine aD.of (n:=9) Tryz.func158 rfl rfl rfl rfl rfl fun cx hfr=>?_;refine sr rfl ?_;refine p1 (lL) ?_;refine p2 (aU (i:=0) kV) ?_;refine RV.done ?_;refine CV.seq ?_;refine CV.region rfl (fun _=>by kernel_rfl) ?_;refine p1 (bT aC) ?_;refine p1 (bT aJ7) ?_;refine p1 (bT aC) ?_;refine p1 (aD1 (tB l x B K hl hE) (aOa _) (cx.wf hfr) rfl rfl bd Tryz.func20 rfl rfl (xb rfl rfl) rfl) ?_;refine p1 (aJa rfl rfl bd rfl rfl) ?_;refine p2 (jG (dQ).2) ?_;refine bU (by kernel_rfl) ?_;refine CV.ret ?_;exact aS rfl (.inr rfl) ⟨_,_,_,_,_,rfl,rfl,rfl,dQ⟩ cL
def nM (l:List (List Rat)) (all:Int) (K:Nat):Nat->Rat->Option Rat
 | 0,_=>none
 | n+1,x=>if bC (-x) l-bC x l=all then some x else if aH [x*x] K=true then nM l all K n (x*x) else none
theorem aTt {l:List (List Rat)} {all:Int} {K n:Nat} {x y:Rat} (h:nM l all K n x=some y):∃ m,n=m+1:=by
 cases n with
 | zero=>cases h
 | succ m=>exact⟨m,rfl⟩
theorem aTs {l:List (List Rat)} {all:Int} {K n:Nat} {x y:Rat} (h:nM l all K (n+1) x=some y) (hc:bC (-x) l-bC x l=all):x=y:=by
 rw[nM,if_pos hc] at h;exact Option.some.inj h
theorem aV4 {l:List (List Rat)} {all:Int} {K n:Nat} {x y:Rat} (h:nM l all K (n+1) x=some y) (hc:¬ bC (-x) l-bC x l=all):aH [x*x] K=true/\nM l all K n (x*x)=some y:=by
 rw[nM,if_neg hc] at h;split at h
 ·rename_i h1; exact⟨h1,h⟩
 ·cases h
theorem aV3 (l:List (List Rat)) (b y:Rat) (B K n:Nat) (hl:l.length<=1000000) (hK6:6<=K) (hK:K<=100000) (hb:aH [b] K=true) (hE:∀ x,aH [x] K=true->fM l x B K) (h:nM l (bC (-b) l-bC b l) K n (Rat.divInt 2 1)=some y):aD Tryz.prog 88 [jV l B,RT b K] (.tup [EG (-y) K (bC (-y) l),EG y K (bC y l)]):=by
 have b1:=lM (-b) l;have b2:=lM b l;have h2:aH [Rat.divInt 2 1] K=true:=pH hK6 (by decide +kernel);refine aD.of (n:=43) Tryz.func88 rfl rfl rfl rfl rfl fun cx hfr=>?_;refine sr rfl ?_;refine p1 (lL) ?_;refine p2 (cC (i:=0)) ?_;refine p2 (aU (i:=1) kV) ?_;refine p2 (aU (i:=2) kV) ?_;refine RV.done (sr rfl ?_);refine p1 (uR (caps:=[.tmp 2]) (ss:=[_]) rfl rfl bd (xa rfl) rfl) ?_;refine xn ?_;refine RV.done ?_;refine CV.seq ?_;refine CV.region rfl (fun _=>by kernel_rfl) ?_;refine xm ?_;refine p1 (aJ aC) ?_;refine xc (xD b K) Tryz.func121 (xa rfl) hfr ?_;refine p1 (wO (zM l (-b) B K hl (hE _ (aA6 hb))) Tryz.func158 rfl rfl rfl rfl bd rfl (xa rfl) rfl hfr rfl) ?_;refine p1 (aI8 (aOg) aN9 (by kernel_rfl) rfl rfl bd rfl) ?_;refine xm ?_;refine p1 (aJ aC) ?_;refine p1 (wO (zM l b B K hl (hE _ hb)) Tryz.func158 rfl rfl rfl rfl bd rfl (xa rfl) rfl hfr rfl) ?_;refine p1 (aI8 (aOg) aN9 (by kernel_rfl) rfl rfl bd rfl) ?_;refine p1 (dU (c:=bC (-b) l-bC b l) (bV (by omega) (by omega)) rfl rfl bd rfl rfl) ?_;refine xn ?_;refine bU (by kernel_rfl) ?_;refine sr rfl ?_;refine xd rfl ((pQ 2 1 (by decide) (by decide) (by decide) (by decide)).mono (fun _ _ _ _ h=>h) (eQ h2)) Tryz.func74 (xb rfl rfl) hfr ?_;refine p2 (aU (i:=3) cI) ?_;refine p1 (aQ (aC).2) ?_;refine RV.done ?_;refine CV.block ?_;refine CV.loop (X:={z:Nat × Rat // nM l (bC (-b) l-bC b l) K z.1 z.2=some y/\aH [z.2] K=true}) (fun z=>[(.s 6,.av (.one (.d (Dm.gen (rM 158 [lB l B]))))),(.s 7,.av (.one (.v (.int .i64 (bC (-b) l-bC b l))))),(.s 8,.av (.one (.ptr 3 0))),(.b 3,.blk 30 [(some 4,RT z.1.2 K)]),(.s 4,.av (.one (.ptr 1 0))),(.b 1,.blk 105 [(some 5,(SA.v (.agg #[.bool false,.slice none 0 0,.bool false,.slice none 0 0,.int .i64 0]):SA Dm))]),(.s 5,.av (.one (.ptr 2 0))),(.b 2,.blk 105 [(some 5,(SA.v (.agg #[.bool false,.slice none 0 0,.bool false,.slice none 0 0,.int .i64 0]):SA Dm))])]) (fun z=>z.1.1) ⟨(n,Rat.divInt 2 1),h,h2⟩ (aZ.mk ⟨aB _,aB _,aB _,aB _,aB _,aB _,aB _,aB _,trivial⟩ rfl rfl) (fun z=>?_);obtain⟨⟨n,x⟩,hz,hx⟩:=z;simp only at hz hx |-;obtain⟨m,rfl⟩:=aTt hz;have c1:=lM (-x) l;have c2:=lM x l;refine CV.seq ?_;refine CV.block ?_;refine CV.seq ?_;refine CV.region rfl (fun _=>by kernel_rfl) ?_;refine xm ?_;refine p1 (aJ aC) ?_;refine xc (xD x K) Tryz.func121 (xa rfl) hfr ?_;refine p1 (wO (zM l (-x) B K hl (hE _ (aA6 hx))) Tryz.func158 rfl rfl rfl rfl bd rfl (xa rfl) rfl hfr rfl) ?_;refine xm ?_;refine p1 (aJ aC) ?_;refine p1 (wO (zM l x B K hl (hE _ hx)) Tryz.func158 rfl rfl rfl rfl bd rfl (xa rfl) rfl hfr rfl) ?_;refine p2 (aU (i:=4) kV) ?_;refine p2 (aU (i:=5) kV) ?_;refine p2 (jG (dQ).2) ?_;refine p2 (jG (dQ).2) ?_;refine bU (by kernel_rfl) ?_;refine sr rfl ?_;refine p1 (bJ rB) ?_;refine p1 (bM 4 rA kX) ?_;refine p1 (bJ rB) ?_;refine p1 (bM 4 rA kX) ?_;refine p1 (dU (c:=bC (-x) l-bC x l) (bV (by omega) (by omega)) rfl rfl bd rfl rfl) ?_;refine xm ?_;refine p1 (cW) ?_;refine RV.done ?_;refine CV.cond rfl (fun hc=>?_) (fun hc=>?_)
 ·have hxy:=aTs hz (by simpa using hc);refine CV.seq ?_;refine CV.region rfl (fun _=>by kernel_rfl) ?_;refine p1 (aJ dQ) ?_;refine p1 (aJ dQ) ?_;refine p2 (jG (dQ).2) ?_;refine p2 (jG (dQ).2) ?_;refine bU (by kernel_rfl) ?_;refine CV.ret ?_;subst hxy;exact lS rfl (.inr rfl) ⟨_,_,_,_,_,rfl,rfl,rfl,dQ⟩ ⟨_,_,_,_,_,rfl,rfl,rfl,dQ⟩ sJ
 ·have hn:=aV4 hz (by simpa using hc);refine CV.skip ?_;refine CV.seq ?_;refine CV.seq ?_;refine CV.sub (l':=[(.s 6,.av (.one (.d (Dm.gen (rM 158 [lB l B]))))),(.s 7,.av (.one (.v (.int .i64 (bC (-b) l-bC b l))))),(.s 8,.av (.one (.ptr 3 0))),(.b 3,.blk 30 [(some 4,RT x K)]),(.s 4,.av (.one (.ptr 1 0))),(.b 1,.blk 105 [(some 5,(SA.v (.agg #[.bool false,.slice none 0 0,.bool false,.slice none 0 0,.int .i64 0]):SA Dm))]),(.s 5,.av (.one (.ptr 2 0))),(.b 2,.blk 105 [(some 5,(SA.v (.agg #[.bool false,.slice none 0 0,.bool false,.slice none 0 0,.int .i64 0]):SA Dm))])]) (aZ.mk ⟨aB _,aB _,aB _,aB _,aB _,aB _,aB _,aB _,trivial⟩ rfl rfl) ?_;refine CV.region rfl (fun h=>nomatch h) ?_;refine p1 (aJ aC) ?_;refine RV.done ?_;refine CV.region rfl (fun h=>nomatch h) ?_;refine p2 (aU (i:=6) cI) ?_;refine p1 (aQ (aC).2) ?_;refine RV.done ?_;refine CV.region rfl (fun h=>nomatch h) ?_;refine p1 (aJ aC) ?_;refine p1 (aJ aC) ?_;refine xd rfl ((oG x x K K (by omega) (by omega)).mono (fun _ _ _ _ h=>h) (eQ hn.1)) Tryz.func62 (xb rfl rfl) hfr ?_;refine p1 (aQ (aC).2) ?_;refine RV.done ?_;exact⟨⟨(m,x*x),hn.2,hn.1⟩,kW (fun i=>if i=3 then 6 else i) ⟨gG,gG,fun _ _ _ _ h=>h,⟨rfl,fun _ _ _ _ h=>h⟩,fun _ _ _ _ h=>h,⟨rfl,fun _ _ _ _ h=>h⟩,fun _ _ _ _ h=>h,⟨rfl,fun _ _ _ _ h=>h⟩,trivial⟩ rfl rfl rfl rfl,by show m<m+1; omega⟩
theorem aX5:nM (lX.map (·.1)) (bC (-4) (lX.map (·.1))-bC 4 (lX.map (·.1))) 6 5 (Rat.divInt 2 1)=some 4:=by decide +kernel
section
variable (zs1 zs2 zs3:List Int) (hz1:∀ z∈zs1,-9223372036854775808<=z/\z<=9223372036854775807) (hz2:∀ z∈zs2,-9223372036854775808<=z/\z<=9223372036854775807) (hz3:∀ z∈zs3,-9223372036854775808<=z/\z<=9223372036854775807) (c:Int) (hc1 : -9223372036854775808<=c) (hc2:c<=9223372036854775807)
include hz1 hz2 hz3 hc1 hc2
end
def dJ (z:Rat):List Rat->Nat
 | []=>0
 | a::l=>if eV a z<0 then dJ z l+1 else 0
theorem aMv (z:Rat):∀ l,dJ z l<=l.length
 | []=>Nat.le_refl _
 | a::l=>by
  have:=aMv z l;unfold dJ;split
  ·rw[List.length_cons]; omega
  ·exact Nat.zero_le _
theorem aMw (z:Rat):∀ (l:List Rat) (k:Nat),k<dJ z l->eV (l.getD k 0) z<0
 | [],k,h=>by simp[dJ] at h
 | a::l,k,h=>by
  unfold dJ at h;split at h
  ·rename_i h1;cases k with
   | zero=>exact h1
   | succ k=>exact aMw z l k (by omega)
  ·omega
theorem aK8 (z:Rat):∀ (l:List Rat),dJ z l<l.length->¬ eV (l.getD (dJ z l) 0) z<0
 | [],h=>by simp[dJ] at h
 | a::l,h=>by
  by_cases h1:eV a z<0
  ·have e:dJ z (a::l)=dJ z l+1:=by rw[dJ,if_pos h1]
   rw[e] at h |-;exact aK8 z l (by simpa using h)
  ·have e:dJ z (a::l)=0:=by rw[dJ,if_neg h1]
   rw[e];exact h1
def gY (z:Rat) (l:List Rat):List Rat:=if dJ z l<l.length/\eV (l.getD (dJ z l) 0) z=0 then l else l.take (dJ z l)++[z]++l.drop (dJ z l)
theorem aVu (z:Rat) (l:List Rat):(gY z l).length<=l.length+1:=by
 unfold gY;split
 ·omega
 ·simp only[List.length_append,List.length_take,List.length_drop,List.length_cons,List.length_nil];omega
theorem aK3 {z a:Rat} {l:List Rat} (h:a∈gY z l):a=z\/a∈l:=by
 unfold gY at h;split at h
 ·exact .inr h
 ·simp only[List.append_assoc,List.mem_append,List.mem_singleton] at h;rcases h with h | h | h
  ·exact .inr (List.mem_of_mem_take h)
  ·exact .inl h
  ·exact .inr (List.mem_of_mem_drop h)
def sR (z:Rat):List Rat:=aI [-z,Rat.divInt 1 1]
def iX (zs:List Int) (i:Nat):List Rat:=(zs.take i).foldl (fun p z=>bD p (sR (cE z))) (aI [Rat.divInt 2 3])
def cJ (zs:List Int) (i:Nat):List Rat:=(zs.take i).foldl (fun l z=>gY (cE z) l) []
theorem take_at {α:Type} {l:List α} {i:Nat} (h:i<l.length) (d:α):l.take (i+1)=l.take i++[l.getD i d]:=by
 rw[List.take_add_one,List.getElem?_eq_getElem h,List.getD_eq_getElem?_getD,List.getElem?_eq_getElem h];rfl
theorem aC1 {zs:List Int} {i:Nat} (h:i<zs.length):iX zs (i+1)=bD (iX zs i) (sR (cE (zs.getD i 0))):=by
 rw[iX,take_at h 0,List.foldl_append]; rfl
theorem aC0 {zs:List Int} {i:Nat} (h:i<zs.length):cJ zs (i+1)=gY (cE (zs.getD i 0)) (cJ zs i):=by
 rw[cJ,take_at h 0,List.foldl_append]; rfl
theorem aMf:Rat.divInt 1 1=(1:Rat):=by decide +kernel
theorem aFi {m:Int} {e:Nat}:∀ {l:List Rat},(∀ a∈l,∃ z:Int,a*(m:Rat)=(z:Rat)/\z.natAbs<=2^e)->Cm m l e:=by
 intro l h k;rcases Nat.lt_or_ge k l.length with hk | hk
 ·rw[List.getD_eq_getElem?_getD,List.getElem?_eq_getElem hk];exact h _ (List.getElem_mem hk)
 ·rw[dI hk];exact⟨0,by rw[Rat.zero_mul]; rfl,Nat.zero_le _⟩
theorem aAb (z:Rat):sR z=[-z,Rat.divInt 1 1]:=by
 have h1:Rat.divInt 1 1≠(0:Rat):=by decide +kernel
 simp[sR,aI,h1]
theorem aNw (z:Int):Pk (sR (cE z)) 7 2:=by
 refine⟨?_,cK _,by rw[aAb]; exact Nat.le_refl _⟩;rw[aAb];refine⟨12,by decide,by decide,aFi ?_⟩;intro a ha;rcases List.mem_cons.1 ha with rfl | ha
 ·obtain⟨y,h1,h2⟩:=aUq z;exact⟨-y,by rw[Rat.neg_mul,h1]; exact(Rat.intCast_neg y).symm,by rw[Int.natAbs_neg]; exact h2⟩
 ·obtain rfl:=List.mem_singleton.1 ha;exact⟨12,by rw[aMf,Rat.one_mul],by decide⟩
theorem aNv:Pk (aI [Rat.divInt 2 3]) 2 1:=by
 refine⟨?_,cK _,by decide +kernel⟩;rw[show aI [Rat.divInt 2 3]=[Rat.divInt 2 3] by decide +kernel];refine⟨3,by decide,by decide,aFi ?_⟩;intro a ha;obtain rfl:=List.mem_singleton.1 ha;exact⟨2,by decide +kernel,by decide⟩
def qC:List Rat:=aI [Rat.divInt 1 1,0,Rat.divInt 1 1]
theorem yA:Pk qC 1 3:=by
 refine⟨?_,cK _,by decide +kernel⟩;rw[show qC=[1,0,1] by decide +kernel];refine⟨1,by decide,by decide,aFi ?_⟩;intro a ha;have:∀ a∈[(1:Rat),0,1],a=1\/a=0:=by decide +kernel
 rcases this a ha with rfl | rfl
 ·exact⟨1,by decide +kernel,by decide⟩
 ·exact⟨0,by decide +kernel,by decide⟩
theorem xG (zs:List Int):∀ i,i<=4->i<=zs.length->Pk (iX zs i) (2+10*i) (1+i)
 | 0,_,_=>aNv
 | i+1,h4,hl=>by
  rw[aC1 (by omega)];have:=(xG zs i (by omega) (by omega)).mul 3 (aNw (zs.getD i 0)) (by omega);exact this.mono (by omega) (by omega)
def fQ (zs:List Int) (wild:Int):List Rat:=if wild.tmod 2≠0 then bD (iX zs (min 4 zs.length)) qC else iX zs (min 4 zs.length)
theorem aVb (zs:List Int) (wild:Int):Pk (fQ zs wild) 46 7:=by
 have h:=xG zs (min 4 zs.length) (by omega) (by omega);unfold fQ;split
 ·exact(h.mul 3 yA (by omega)).mono (by omega) (by omega)
 ·exact h.mono (by omega) (by omega)
theorem aDk (zs:List Int):∀ i,i<=zs.length->(cJ zs i).length<=i
 | 0,_=>Nat.le_refl _
 | i+1,h=>by
  rw[aC0 (by omega)];have:=aVu (cE (zs.getD i 0)) (cJ zs i);have:=aDk zs i (by omega);omega
theorem aEy {p q:List Rat} {c d n m:Nat} (hp:Pk p c n) (hq:Pk q d m) (hc:c<=290) (hd:d<=290) (hn:n<=10) (hm:m<=10) (t:Nat) (ht:n+m<=2^t) (he:c+d+t<=290):aD Tryz.prog 67 [PL p 10,PL q 10] (.one (PL (bD p q) 10)) :=
 (aZ2 hp hq hc hd hn hm).mono (fun _ _ _ _ h=>h) (eR ((hp.mul t hq ht).sz (by decide) he))
theorem aSx (zs:List Int) (wild:Int) (hz:∀ z∈zs,-9223372036854775808<=z/\z<=9223372036854775807) (hw : -9223372036854775808<=wild/\wild<=9223372036854775807):aD Tryz.prog 13 [ZI .i64 zs,.v (.int .i64 wild)] (.tup [PL (fQ zs wild) 10,PL (cJ zs (min 4 zs.length)) 1]):=by
 have hr0:aH [Rat.divInt 2 3] 6=true:=by decide +kernel
 have hone:aH [Rat.divInt 1 1] 1=true:=by decide +kernel
 refine aD.of (n:=98) Tryz.func13 rfl rfl rfl rfl rfl fun cx hfr=>?_;refine sr rfl ?_;refine xn ?_;refine xn ?_;refine RV.done (sr rfl ?_);refine xd rfl (lK 2 3 (by decide) (by decide) (by decide) (by decide)) Tryz.func32 (xb rfl rfl) hfr ?_;refine p1 (fH (G:=Dm.gen (cA (some 4) (bB [Rat.divInt 2 3] 6))) (ss:=bB [Rat.divInt 2 3] 6) (cS _ _) bY mO rfl rfl rfl uF rfl rfl rfl bd (xa rfl)) ?_;refine xd rfl ((oA [Rat.divInt 2 3] 6 (by decide)).mono (fun _ _ _ _ h=>h) (eR (aNv.sz (by decide) (by decide) (B:=10)))) Tryz.func66 (xa rfl) hfr ?_;refine xn ?_;refine RV.done (sr rfl ?_);refine xn ?_;refine RV.done ?_;refine CV.seq ?_;refine sr rfl ?_;refine xn ?_;refine RV.done ?_;refine CV.block ?_;refine CV.loop (X:={i:Nat // i<=4/\i<=zs.length}) (fun i=>[(.s 8,.av (.one (.v (.int .i64 (i.1:Int))))),(.s 0,.av (.one (ZI .i64 zs))),(.s 1,.av (.one (.v (.int .i64 wild)))),(.s 6,.av (.one (PL (iX zs i.1) 10))),(.s 7,.av (.one (PL (cJ zs i.1) 1)))]) (fun i=>4-i.1) ⟨0,Nat.zero_le _,Nat.zero_le _⟩ (aZ.mk ⟨aB _,aB _,aB _,aB _,aAg rfl (fun L ρ w v h=>oK L ρ w v h),trivial⟩ rfl rfl) (fun i=>?_);obtain⟨i,hi4,hil⟩:=i;simp only;refine CV.seq ?_;refine sr rfl ?_;refine xm ?_;refine xm ?_;refine p1 (bL (wE _) qW) ?_;refine p1 (dP) ?_;refine xm ?_;refine RV.bool (fun g1=>?_) (fun g1=>?_)
 ·refine y1 (cB (.inl rfl)) ?_;refine y1 (dP) ?_;refine p1 (cX) ?_;refine RV.done ?_;refine CV.cond rfl (fun g2=>?_) (fun g2=>?_)
  ·have hlt:i<zs.length:=(by have:=of_decide_eq_true g1; omega)
   have hlt4:i<4:=(by have:=of_decide_eq_true g2; omega)
   have hzi:=hz (zs.getD i 0) (by rw[List.getD_eq_getElem?_getD,List.getElem?_eq_getElem hlt]; exact List.getElem_mem _);have hpk:=xG zs i hi4 hil;have hzl:=aDk zs i hil;have hps:=aC1 hlt;have hzs:=aC0 hlt;have hlin:=aNw (zs.getD i 0);refine CV.skip ?_;refine CV.seq ?_;refine CV.block ?_;refine sr rfl ?_;refine xm ?_;refine xm ?_;refine p1 (cV (k:=none) (i:=i) (aNj hlt) qW aFt) ?_;refine p1 (bT kX) ?_;refine xc (aCu (zs.getD i 0) hzi.1 hzi.2) Tryz.func14 (xa rfl) hfr ?_;refine p2 (aU (i:=0) cI) ?_;refine p1 (aQ (aC).2) ?_;refine RV.done (sr rfl ?_);refine xm ?_;refine p1 (aJ aC) ?_;refine xc (aDd (cE (zs.getD i 0)) 1) Tryz.func18 (xa rfl) hfr ?_;refine xd rfl ((lK 1 1 (by decide) (by decide) (by decide) (by decide)).mono (fun _ _ _ _ h=>h) (eQ (B:=1) hone)) Tryz.func32 (xb rfl rfl) hfr ?_;refine p1 (fH (G:=Dm.gen (cA (some 4) (bB [-(cE (zs.getD i 0)),Rat.divInt 1 1] 1))) (ss:=bB [-(cE (zs.getD i 0)),Rat.divInt 1 1] 1) (cS _ _) bY mO rfl rfl rfl uF rfl rfl rfl bd (xb rfl rfl)) ?_;refine xd rfl ((oA [-(cE (zs.getD i 0)),Rat.divInt 1 1] 1 (by simp)).mono (fun _ _ _ _ h=>h) (eR (hlin.sz (by decide) (by decide) (B:=10)))) Tryz.func66 (xa rfl) hfr ?_;refine xd rfl (aEy hpk hlin (by omega) (by decide) (by omega) (by decide) 3 (by omega) (by omega)) Tryz.func67 (xb rfl rfl) hfr ?_;refine xn ?_;refine RV.done (sr rfl ?_);refine xn ?_;refine RV.done ?_;refine CV.seq ?_;refine CV.block ?_;refine CV.loop (X:={k:Nat // k<=dJ (cE (zs.getD i 0)) (cJ zs i)}) (fun k=>[(.s 10,.av (.one (.v (.int .i64 (k.1:Int))))),(.s 7,.av (.one (PL (cJ zs i) 1))),(.s 9,.av (.one (.ptr 0 0))),(.b 0,.blk 30 [(some 4,RT (cE (zs.getD i 0)) 1)]),(.s 8,.av (.one (.v (.int .i64 (i:Int))))),(.s 0,.av (.one (ZI .i64 zs))),(.s 1,.av (.one (.v (.int .i64 wild)))),(.s 6,.av (.one (PL (bD (iX zs i) (sR (cE (zs.getD i 0)))) 10)))]) (fun k=>dJ (cE (zs.getD i 0)) (cJ zs i)-k.1) ⟨0,Nat.zero_le _⟩ (aZ.mk ⟨aB _,aB _,aB _,aB _,aB _,aB _,aB _,aB _,trivial⟩ rfl rfl) (fun k=>?_);obtain⟨k,hk⟩:=k;simp only;have hfl:=aMv (cE (zs.getD i 0)) (cJ zs i);refine CV.seq ?_;refine CV.seq ?_;refine CV.region rfl (fun _=>by kernel_rfl) ?_;refine xm ?_;refine xm ?_;refine p1 (bL aV bY) ?_;refine p1 (dP) ?_;refine xm ?_;refine RV.bool (fun k1=>?_) (fun k1=>?_)
   ·refine y1 (cB (.inl rfl)) ?_;refine y1 (cB (.inl rfl)) ?_;refine y1 (cB (.inl rfl)) ?_;refine y1 (bL aV bY) ?_;refine y1 (dU (c:=((cJ zs i).length:Int)-1) (bV (by omega) (by omega)) rfl rfl bd rfl rfl) ?_;refine y1 (aE5 (c:=(k:Int)) (by have:=of_decide_eq_true k1; split<;>omega) rfl rfl bd rfl rfl) ?_;refine y1 (cV (k:=some 4) (i:=k) (dN (by have:=of_decide_eq_true k1; omega)) bY cH rfl rfl bd rfl rfl (by decide)) ?_;refine y1 (bT aC) ?_;refine y1 (aJ aC) ?_;refine y1 (cG (rQ ((cJ zs i).getD k 0) (cE (zs.getD i 0)) 1 1 (by decide) (by decide)) rfl rfl bd Tryz.func17 rfl rfl (xb rfl rfl) rfl hfr rfl) ?_;refine y1 (dP) ?_;refine p1 (cX) ?_;refine bU (by kernel_rfl) ?_;refine CV.cond rfl (fun k2=>?_) (fun k2=>?_)
    ·have hkn:k+1<=dJ (cE (zs.getD i 0)) (cJ zs i):=(by by_cases q:k<dJ (cE (zs.getD i 0)) (cJ zs i); exact q; exfalso; have e:k=dJ (cE (zs.getD i 0)) (cJ zs i):=(by omega); have q2:=aK8 (cE (zs.getD i 0)) (cJ zs i) (by rw[<- e]; have:=of_decide_eq_true k1; omega); rw[<- e] at q2; exact q2 (of_decide_eq_true k2))
     refine CV.skip ?_;refine CV.block ?_;refine CV.region rfl (fun h=>nomatch h) ?_;refine xm ?_;refine p1 (cP (c:=((k+1:Nat):Int)) (by rw[bV (by omega) (by omega)]; omega) rfl rfl bd rfl rfl) ?_;refine xn ?_;refine RV.done ?_;exact⟨⟨k+1,hkn⟩,aZ.mk ⟨aB _,aB _,aB _,aB _,aB _,aB _,aB _,aB _,trivial⟩ rfl rfl,by show dJ _ _-(k+1)<dJ _ _-k; omega⟩
    ·have hkf:k=dJ (cE (zs.getD i 0)) (cJ zs i):=(by by_cases q:k<dJ (cE (zs.getD i 0)) (cJ zs i); exact absurd (aMw (cE (zs.getD i 0)) (cJ zs i) k q) (of_decide_eq_false k2); omega)
     refine CV.exit ?_;refine CV.seq ?_;refine CV.seq ?_;refine CV.region rfl (fun _=>by kernel_rfl) ?_;refine xm ?_;refine xm ?_;refine p1 (bL aV bY) ?_;refine p1 (dP) ?_;refine xm ?_;refine RV.bool (fun hb=>?_) (fun hb=>False.elim (by have q:=of_decide_eq_false hb; have:=of_decide_eq_true k1; omega));refine y1 (cB (.inl rfl)) ?_;refine y1 (cB (.inl rfl)) ?_;refine y1 (cB (.inl rfl)) ?_;refine y1 (bL aV bY) ?_;refine y1 (dU (c:=((cJ zs i).length:Int)-1) (bV (by omega) (by omega)) rfl rfl bd rfl rfl) ?_;refine y1 (aE5 (c:=(k:Int)) (by have:=of_decide_eq_true k1; split<;>omega) rfl rfl bd rfl rfl) ?_;refine y1 (cV (k:=some 4) (i:=k) (dN (by have:=of_decide_eq_true k1; omega)) bY cH rfl rfl bd rfl rfl (by decide)) ?_;refine y1 (bT aC) ?_;refine y1 (aJ aC) ?_;refine y1 (cG (rQ ((cJ zs i).getD k 0) (cE (zs.getD i 0)) 1 1 (by decide) (by decide)) rfl rfl bd Tryz.func17 rfl rfl (xb rfl rfl) rfl hfr rfl) ?_;refine y1 (cW) ?_;refine p1 (cX) ?_;refine bU (by kernel_rfl) ?_;refine CV.cond rfl (fun k3=>?_) (fun k3=>?_)
     ·have hins:gY (cE (zs.getD i 0)) (cJ zs i)=(cJ zs i):=(by rw[gY,if_pos ⟨by rw[<- hkf]; have:=of_decide_eq_true k1; omega,by rw[<- hkf]; simpa using k3⟩])
      refine CV.exit ?_;have hd:True:=trivial;refine CV.region rfl (fun h=>nomatch h) ?_;refine xm ?_;refine p1 (cP (c:=((i+1:Nat):Int)) (by rw[bV (by omega) (by omega)]; omega) rfl rfl bd rfl rfl) ?_;refine xn ?_;refine RV.done ?_;exact⟨⟨i+1,by omega,by omega⟩,aZ.mk ⟨aB _,aB _,aB _,iI (by rw[hps]; rfl),iI (by rw[hzs,hins]; rfl),trivial⟩ rfl rfl,by show 4-(i+1)<4-i; omega⟩
     ·have hins:gY (cE (zs.getD i 0)) (cJ zs i)=((cJ zs i).take k++[(cE (zs.getD i 0))])++(cJ zs i).drop k:=(by rw[gY,if_neg (by rintro⟨q1,q2⟩; rw[<- hkf] at q2; rw[q2] at k3; exact absurd k3 (by decide)),<- hkf])
      refine CV.skip ?_;refine sr rfl ?_;refine xn ?_;refine RV.done ?_;refine CV.seq ?_;refine oD 11 100 30 (some 4) rfl rfl rfl rfl ?_;refine CV.region rfl (fun _=>by kernel_rfl) ?_;refine xm ?_;refine xm ?_;refine xm ?_;refine p1 (pK (k:=some 4) (l':=bB ((cJ zs i).take k) 1) none (some k) none (by show ((bB (cJ zs i) 1).take k).drop 0=_; rw[List.drop_zero,wY]) (by decide) (Nat.zero_le _) (by show k<=(bB (cJ zs i) 1).length; rw[aV]; omega) (Nat.le_refl _) (fun h=>nomatch h) bY cH rfl rfl bd rfl trivial rfl trivial) ?_;refine gI (aN.plain (iR (r:=100) (r':=101) (k:=some 4) (gU (by decide) pC) (by simp only[List.length_append,aV,List.length_take,List.length_drop,List.length_nil,List.length_cons]; omega) (by simp only[List.length_append,aV,List.length_take,List.length_drop,List.length_nil,List.length_cons]; omega) bY gL rfl rfl rfl qM (by simp only[List.length_append,aV,List.length_nil,List.length_cons,List.nil_append,Nat.zero_add]) rfl rfl bd rfl rfl rfl rfl rfl rfl rfl rfl) rfl) ?_;refine p1 (aJ aC) ?_;refine p1 (fH (G:=Dm.gen (cA (some 4) (bB [(cE (zs.getD i 0))] 1))) (ss:=bB [(cE (zs.getD i 0))] 1) (cS _ _) bY mO rfl rfl rfl uF rfl rfl rfl bd (xa rfl)) ?_;refine gI (aN.plain (iR (r:=101) (r':=102) (k:=some 4) (gU (by decide) pC) (by simp only[List.length_append,aV,List.length_take,List.length_drop,List.length_nil,List.length_cons]; omega) (by simp only[List.length_append,aV,List.length_take,List.length_drop,List.length_nil,List.length_cons]; omega) bY gL rfl rfl rfl qM (by simp only[List.length_append,aV,List.length_nil,List.length_cons,List.nil_append,Nat.zero_add]) rfl rfl bd rfl rfl rfl rfl rfl rfl rfl rfl) rfl) ?_;refine xn ?_;refine bU (by kernel_rfl) ?_;refine CV.region rfl (fun h=>nomatch h) ?_;refine xm ?_;refine xm ?_;refine xm ?_;refine p1 (pK (k:=some 4) (l':=bB ((cJ zs i).drop k) 1) (some k) none none (by show ((bB (cJ zs i) 1).take (bB (cJ zs i) 1).length).drop k=_; rw[List.take_length,zX]) (by decide) (by show k<=(bB (cJ zs i) 1).length; rw[aV]; omega) (Nat.le_refl _) (Nat.le_refl _) (fun _=>rfl) bY cH rfl rfl bd rfl rfl trivial trivial) ?_;refine gI (aN.plain (iR (r:=102) (r':=103) (k:=some 4) (gU (by decide) pC) (by simp only[List.length_append,aV,List.length_take,List.length_drop,List.length_nil,List.length_cons]; omega) (by simp only[List.length_append,aV,List.length_take,List.length_drop,List.length_nil,List.length_cons]; omega) bY gL rfl rfl rfl qM (by simp only[List.length_append,aV,List.length_nil,List.length_cons,List.nil_append,Nat.zero_add]) rfl rfl bd rfl rfl rfl rfl rfl rfl rfl rfl) rfl) ?_;refine xn ?_;refine RV.done ?_;refine jZ (r:=103) (t:=7) (G:=Dm.gen (cA (some 4) ((([]++bB ((cJ zs i).take k) 1)++bB [(cE (zs.getD i 0))] 1)++bB ((cJ zs i).drop k) 1))) (cx.bw hfr) rfl rfl (by simp only[List.length_append,List.length_nil]) rfl rfl (cS _ _) (iS _ _) ?_;refine CV.region rfl (fun h=>nomatch h) ?_;refine xm ?_;refine p1 (cP (c:=((i+1:Nat):Int)) (by rw[bV (by omega) (by omega)]; omega) rfl rfl bd rfl rfl) ?_;refine xn ?_;refine RV.done ?_;exact⟨⟨i+1,by omega,by omega⟩,aZ.mk ⟨aB _,aB _,aB _,iI (by rw[hps]; rfl),iI (by rw[hzs,hins]; show XV.av (.one (.d (Dm.gen (cA (some 4) (([]++bB _ 1++bB _ 1)++bB _ 1)))))=_; rw[List.nil_append,zF,zF]),trivial⟩ rfl rfl,by show 4-(i+1)<4-i; omega⟩
   ·have hkf:k=dJ (cE (zs.getD i 0)) (cJ zs i):=(by have:=of_decide_eq_false k1; omega)
    have hins:gY (cE (zs.getD i 0)) (cJ zs i)=((cJ zs i).take k++[(cE (zs.getD i 0))])++(cJ zs i).drop k:=(by rw[gY,if_neg (by rintro⟨q1,q2⟩; have:=of_decide_eq_false k1; omega),<- hkf])
    refine xk ?_;refine xk ?_;refine xk ?_;refine xk ?_;refine xk ?_;refine xk ?_;refine xk ?_;refine xk ?_;refine xk ?_;refine xk ?_;refine xk ?_;refine p1 (eI) ?_;refine bU (by kernel_rfl) ?_;refine CV.no rfl ?_;refine CV.exit ?_;refine CV.seq ?_;refine CV.seq ?_;refine CV.region rfl (fun _=>by kernel_rfl) ?_;refine xm ?_;refine xm ?_;refine p1 (bL aV bY) ?_;refine p1 (dP) ?_;refine xm ?_;refine RV.bool (fun hb=>False.elim (by have q:=of_decide_eq_true hb; have:=of_decide_eq_false k1; omega)) (fun hb=>?_);refine xk ?_;refine xk ?_;refine xk ?_;refine xk ?_;refine xk ?_;refine xk ?_;refine xk ?_;refine xk ?_;refine xk ?_;refine xk ?_;refine xk ?_;refine p1 (eI) ?_;refine bU (by kernel_rfl) ?_;refine CV.no rfl ?_;refine CV.skip ?_;refine sr rfl ?_;refine xn ?_;refine RV.done ?_;refine CV.seq ?_;refine oD 11 100 30 (some 4) rfl rfl rfl rfl ?_;refine CV.region rfl (fun _=>by kernel_rfl) ?_;refine xm ?_;refine xm ?_;refine xm ?_;refine p1 (pK (k:=some 4) (l':=bB ((cJ zs i).take k) 1) none (some k) none (by show ((bB (cJ zs i) 1).take k).drop 0=_; rw[List.drop_zero,wY]) (by decide) (Nat.zero_le _) (by show k<=(bB (cJ zs i) 1).length; rw[aV]; omega) (Nat.le_refl _) (fun h=>nomatch h) bY cH rfl rfl bd rfl trivial rfl trivial) ?_;refine gI (aN.plain (iR (r:=100) (r':=101) (k:=some 4) (gU (by decide) pC) (by simp only[List.length_append,aV,List.length_take,List.length_drop,List.length_nil,List.length_cons]; omega) (by simp only[List.length_append,aV,List.length_take,List.length_drop,List.length_nil,List.length_cons]; omega) bY gL rfl rfl rfl qM (by simp only[List.length_append,aV,List.length_nil,List.length_cons,List.nil_append,Nat.zero_add]) rfl rfl bd rfl rfl rfl rfl rfl rfl rfl rfl) rfl) ?_;refine p1 (aJ aC) ?_;refine p1 (fH (G:=Dm.gen (cA (some 4) (bB [(cE (zs.getD i 0))] 1))) (ss:=bB [(cE (zs.getD i 0))] 1) (cS _ _) bY mO rfl rfl rfl uF rfl rfl rfl bd (xa rfl)) ?_;refine gI (aN.plain (iR (r:=101) (r':=102) (k:=some 4) (gU (by decide) pC) (by simp only[List.length_append,aV,List.length_take,List.length_drop,List.length_nil,List.length_cons]; omega) (by simp only[List.length_append,aV,List.length_take,List.length_drop,List.length_nil,List.length_cons]; omega) bY gL rfl rfl rfl qM (by simp only[List.length_append,aV,List.length_nil,List.length_cons,List.nil_append,Nat.zero_add]) rfl rfl bd rfl rfl rfl rfl rfl rfl rfl rfl) rfl) ?_;refine xn ?_;refine bU (by kernel_rfl) ?_;refine CV.region rfl (fun h=>nomatch h) ?_;refine xm ?_;refine xm ?_;refine xm ?_;refine p1 (pK (k:=some 4) (l':=bB ((cJ zs i).drop k) 1) (some k) none none (by show ((bB (cJ zs i) 1).take (bB (cJ zs i) 1).length).drop k=_; rw[List.take_length,zX]) (by decide) (by show k<=(bB (cJ zs i) 1).length; rw[aV]; omega) (Nat.le_refl _) (Nat.le_refl _) (fun _=>rfl) bY cH rfl rfl bd rfl rfl trivial trivial) ?_;refine gI (aN.plain (iR (r:=102) (r':=103) (k:=some 4) (gU (by decide) pC) (by simp only[List.length_append,aV,List.length_take,List.length_drop,List.length_nil,List.length_cons]; omega) (by simp only[List.length_append,aV,List.length_take,List.length_drop,List.length_nil,List.length_cons]; omega) bY gL rfl rfl rfl qM (by simp only[List.length_append,aV,List.length_nil,List.length_cons,List.nil_append,Nat.zero_add]) rfl rfl bd rfl rfl rfl rfl rfl rfl rfl rfl) rfl) ?_;refine xn ?_;refine RV.done ?_;refine jZ (r:=103) (t:=7) (G:=Dm.gen (cA (some 4) ((([]++bB ((cJ zs i).take k) 1)++bB [(cE (zs.getD i 0))] 1)++bB ((cJ zs i).drop k) 1))) (cx.bw hfr) rfl rfl (by simp only[List.length_append,List.length_nil]) rfl rfl (cS _ _) (iS _ _) ?_;refine CV.region rfl (fun h=>nomatch h) ?_;refine xm ?_;refine p1 (cP (c:=((i+1:Nat):Int)) (by rw[bV (by omega) (by omega)]; omega) rfl rfl bd rfl rfl) ?_;refine xn ?_;refine RV.done ?_;exact⟨⟨i+1,by omega,by omega⟩,aZ.mk ⟨aB _,aB _,aB _,iI (by rw[hps]; rfl),iI (by rw[hzs,hins]; show XV.av (.one (.d (Dm.gen (cA (some 4) (([]++bB _ 1++bB _ 1)++bB _ 1)))))=_; rw[List.nil_append,zF,zF]),trivial⟩ rfl rfl,by show 4-(i+1)<4-i; omega⟩
  ·have hmin:i=min 4 zs.length:=(by have:=of_decide_eq_false g2; omega)
   refine CV.exit ?_;refine CV.seq ?_;refine sr rfl ?_;refine xm ?_;refine p1 (uZ) ?_;refine p1 (pT) ?_;refine RV.done ?_;refine CV.cond rfl (fun v1=>?_) (fun v1=>?_)
   ·have hv:fQ zs wild=bD (iX zs i) qC:=(by rw[fQ,if_pos (by simpa using v1),hmin])
    have hpi:=xG zs i hi4 hil;refine CV.region rfl (fun h=>nomatch h) ?_;refine xm ?_;refine xd rfl (lK 1 1 (by decide) (by decide) (by decide) (by decide)) Tryz.func32 (xb rfl rfl) hfr ?_;refine p1 (pA) ?_;refine xd rfl (lK 1 1 (by decide) (by decide) (by decide) (by decide)) Tryz.func32 (xb rfl rfl) hfr ?_;refine p1 (fH (G:=Dm.gen (cA (some 4) (bB [Rat.divInt 1 1,0,Rat.divInt 1 1] 6))) (ss:=bB [Rat.divInt 1 1,0,Rat.divInt 1 1] 6) (cS _ _) bY mO rfl rfl rfl uF rfl rfl rfl bd (.cons rfl cT.any (.cons rfl ⟨rfl,fun L ρ w v h=>dZ rfl rfl (Nat.zero_le _) L ρ w v h⟩ (xa rfl)))) ?_;refine xd rfl ((oA [Rat.divInt 1 1,0,Rat.divInt 1 1] 6 (by decide)).mono (fun _ _ _ _ h=>h) (eR (yA.sz (by decide) (by decide) (B:=10)))) Tryz.func66 (xa rfl) hfr ?_;refine xd rfl (aEy hpi yA (by omega) (by decide) (by omega) (by decide) 3 (by omega) (by omega)) Tryz.func67 (xb rfl rfl) hfr ?_;refine xn ?_;refine RV.done (sr rfl ?_);refine xm ?_;refine xm ?_;refine xn ?_;refine xn ?_;refine RV.done ?_;refine CV.ret ?_;rw[hv,<- hmin];exact lS rfl (.inr rfl) rfl rfl sJ
   ·have hv:fQ zs wild=iX zs i:=(by rw[fQ,if_neg (by simpa using v1),hmin])
    refine CV.skip ?_;refine sr rfl ?_;refine xm ?_;refine xm ?_;refine xn ?_;refine xn ?_;refine RV.done ?_;refine CV.ret ?_;rw[hv,<- hmin];exact lS rfl (.inr rfl) rfl rfl sJ
 ·have hmin:i=min 4 zs.length:=(by have:=of_decide_eq_false g1; omega)
  refine xk ?_;refine xk ?_;refine p1 (eI) ?_;refine RV.done ?_;refine CV.no rfl ?_;refine CV.exit ?_;refine CV.seq ?_;refine sr rfl ?_;refine xm ?_;refine p1 (uZ) ?_;refine p1 (pT) ?_;refine RV.done ?_;refine CV.cond rfl (fun v1=>?_) (fun v1=>?_)
  ·have hv:fQ zs wild=bD (iX zs i) qC:=(by rw[fQ,if_pos (by simpa using v1),hmin])
   have hpi:=xG zs i hi4 hil;refine CV.region rfl (fun h=>nomatch h) ?_;refine xm ?_;refine xd rfl (lK 1 1 (by decide) (by decide) (by decide) (by decide)) Tryz.func32 (xb rfl rfl) hfr ?_;refine p1 (pA) ?_;refine xd rfl (lK 1 1 (by decide) (by decide) (by decide) (by decide)) Tryz.func32 (xb rfl rfl) hfr ?_;refine p1 (fH (G:=Dm.gen (cA (some 4) (bB [Rat.divInt 1 1,0,Rat.divInt 1 1] 6))) (ss:=bB [Rat.divInt 1 1,0,Rat.divInt 1 1] 6) (cS _ _) bY mO rfl rfl rfl uF rfl rfl rfl bd (.cons rfl cT.any (.cons rfl ⟨rfl,fun L ρ w v h=>dZ rfl rfl (Nat.zero_le _) L ρ w v h⟩ (xa rfl)))) ?_;refine xd rfl ((oA [Rat.divInt 1 1,0,Rat.divInt 1 1] 6 (by decide)).mono (fun _ _ _ _ h=>h) (eR (yA.sz (by decide) (by decide) (B:=10)))) Tryz.func66 (xa rfl) hfr ?_;refine xd rfl (aEy hpi yA (by omega) (by decide) (by omega) (by decide) 3 (by omega) (by omega)) Tryz.func67 (xb rfl rfl) hfr ?_;refine xn ?_;refine RV.done (sr rfl ?_);refine xm ?_;refine xm ?_;refine xn ?_;refine xn ?_;refine RV.done ?_;refine CV.ret ?_;rw[hv,<- hmin];exact lS rfl (.inr rfl) rfl rfl sJ
  ·have hv:fQ zs wild=iX zs i:=(by rw[fQ,if_neg (by simpa using v1),hmin])
   refine CV.skip ?_;refine sr rfl ?_;refine xm ?_;refine xm ?_;refine xn ?_;refine xn ?_;refine RV.done ?_;refine CV.ret ?_;rw[hv,<- hmin];exact lS rfl (.inr rfl) rfl rfl sJ
end Vc
end Go.Proofs.YtbaihklbefhgdaaGreat
