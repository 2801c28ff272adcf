/-
  
-/
import Derived.Test.YtjmbkipbmbnhjaaGreatSM9
import Derived.Test.YtjmbkipbmbnhjaaGreatSM44
import Derived.Test.YtjmbkipbmbnhjaaGreatSM36
import Derived.Test.YtjmbkipbmbnhjaaGreatSM41
set_option linter.unusedVariables false
set_option linter.unusedSimpArgs false
set_option linter.unusedSectionVars false
namespace Go.Proofs.YtjmbkipbmbnhjaaGreat
open Go.RowKit
open Go.Lib (hid)
open Dg Zn
namespace Vc
set_option maxRecDepth 100000
theorem aWj {B:Nat}:∀ (L:Nat->Prop) (ρ:aS) (w:World) (v:Value),(SA.v (.slice none 0 0):SA Dm).is L ρ w v->(AV.one (uZ [] B)).is L ρ w v:=by
 intro L ρ w v h w' _;obtain rfl:v=_:=h;exact⟨none,0,rfl,⟨Nat.le_refl _,by decide⟩,fun h=>absurd h (Nat.lt_irrefl 0)⟩
theorem aOv (p:List Rat) (B:Nat) (hB:B<=300000) (hp:p.length<=1000000) (hF:kG B p=some []):aD Tryz.prog 48 [PL p B] (.one (uZ [] B)):=by
 refine aD.of (n:=39) Tryz.func48 rfl rfl rfl rfl rfl fun cx hfr=>?_;refine sr rfl ?_;refine xn ?_;refine RV.done (sr rfl ?_);refine xm ?_;refine xc (aC6 p [] B hB hp hF) Tryz.func94 (xa rfl) hfr ?_;refine xn ?_;refine RV.done ?_;refine CV.seq ?_;refine sr rfl ?_;refine xm ?_;refine p1 (bJ (m:=0) rfl aZ) ?_;refine p1 (cR) ?_;refine RV.done ?_;refine CV.cond rfl (fun hc=>?_) (fun hc=>False.elim (by revert hc; decide));refine sr rfl ?_;refine xn ?_;refine RV.done ?_;refine CV.ret ?_;exact aR rfl (.inr rfl) rfl aWj
def lS (B:Nat) (p:List Rat):Option (List (List Rat × Rat)) :=
 (kG B p).bind fun F=>if F=[] then some [] else if (aG [(1:Rat)] B&&(aG (cD F) B&&decide (F.length<=1000)))=true then (gR B F 1).bind fun a=>(gR B (cD F) 1).bind fun b=>kY B (F.length+2) [a] b else none
theorem aGm (p:List Rat) (L:List (List Rat × Rat)) (B:Nat) (hB:B<=300000) (hp:p.length<=1000000) (h:lS B p=some L):aD Tryz.prog 48 [PL p B] (.one (uZ L B)):=by
 unfold lS at h;obtain⟨F,h1,h⟩:=Option.bind_eq_some_iff.1 h;split at h
 ·rename_i h0;injection h with h;subst h0; subst h;exact aOv p B hB hp h1
 ·rename_i h0;split at h
  ·rename_i h2;rw[Bool.and_eq_true,Bool.and_eq_true,decide_eq_true_eq] at h2;obtain⟨a,h3,h⟩:=Option.bind_eq_some_iff.1 h;obtain⟨b,h4,h⟩:=Option.bind_eq_some_iff.1 h;exact aOu p F a b L B (F.length+2) hB hp h1 h2.2.2 h0 h2.1 h3 h2.2.1 h4 h
  ·cases h
/-! Lists of polynomials. -/
def dX (l:List (List Rat)) (B:Nat):List (SA Dm):=l.map fun p=>PL p B
abbrev kO (l:List (List Rat)) (B:Nat):SA Dm:=.d (Dm.gen (bY none (dX l B)))
theorem iW {l:List (List Rat)} {B:Nat}:(dX l B).length=l.length:=by simp[dX]
theorem aEk {l:List (List Rat)} {B i:Nat} (h:i<l.length):(dX l B)[i]?=some (PL (l.getD i []) B):=by
 simp[dX,List.getD_eq_getElem?_getD,List.getElem?_eq_getElem h]
theorem pQ {l:List (List Rat)} {B:Nat}:(dX l B).flatMap SA.ptrs=[]:=by
 rw[List.flatMap_eq_nil_iff];intro s hs;obtain⟨e,_,rfl⟩:=List.mem_map.1 hs;rfl
theorem sM {l m:List (List Rat)} {B:Nat}:dX (l++m) B=dX l B++dX m B:=by simp[dX]
theorem yD {l:List (List Rat)} {B:Nat}:∀ s∈dX l B,s.plain=true:=by
 intro s hs;obtain⟨e,_,rfl⟩:=List.mem_map.1 hs;rfl
theorem vR {l:List (List Rat)} {B:Nat}:∀ s∈dX l B,s.kind=some none:=by
 intro s hs;obtain⟨e,_,rfl⟩:=List.mem_map.1 hs;rfl
theorem jC:Tryz.prog.underlying 34=some (.slice 24):=by kernel_rfl
theorem tW:(Tryz.prog.info? 24).map (fun i=>(i.size,i.zero))=some (1,some (.slice none 0 0)):=by kernel_rfl
theorem aDq:(Tryz.prog.info? 24).map (fun i=>(i.zero,i.size,i.bytes))=some (some (.slice none 0 0),1,24):=by kernel_rfl
theorem yA {α β:Type} (f:α -> β) (l:List α) {k:Nat} (h:k<l.length) (d:α):(l.take k).map f++[f (l.getD k d)]=(l.take (k+1)).map f:=by
 rw[List.take_add_one,List.map_append,List.getElem?_eq_getElem h,List.getD_eq_getElem?_getD,List.getElem?_eq_getElem h];rfl
theorem aH4 (p:List Rat) (L:List (List Rat × Rat)) (B:Nat) (hB:B<=300000) (hp:p.length<=1000000) (h:lS B p=some L) (hL:L.length<=1000000):aD Tryz.prog 64 [PL p B] (.one (kO (L.map (·.1)) B)):=by
 refine aD.of (n:=20) Tryz.func64 rfl rfl rfl rfl rfl fun cx hfr=>?_;refine sr rfl ?_;refine xn ?_;refine RV.done (sr rfl ?_);refine xn ?_;refine RV.done ?_;refine CV.seq ?_;refine CV.seq ?_;refine oL 3 100 24 none rfl rfl rfl rfl ?_;refine CV.region rfl (fun h=>nomatch h) ?_;refine xm ?_;refine xc (aGm p L B hB hp h) Tryz.func48 (xa rfl) hfr ?_;refine p1 (bJ nL oY) ?_;refine xm ?_;refine RV.done ?_;refine CV.block ?_;refine CV.loop (X:={k:Nat // k<=L.length}) (fun k=>[(.s 9,.av (.one (.v (.int .i64 (k.1:Int))))),(.s 8,.av (.one (.v (.int .i64 (L.length:Int))))),(.s 7,.av (.one (uZ L B))),(.s 3,.av (.one (.sl 100 (dX ((L.take k.1).map (·.1)) B).length))),(.b 100,.row 24 none (dX ((L.take k.1).map (·.1)) B))]) (fun k=>L.length-k.1) ⟨0,Nat.zero_le _⟩ (bF.mk ⟨aC _,aC _,aC _,aC _,aC _,trivial⟩ rfl rfl) (fun k=>?_);obtain⟨k,hk⟩:=k;simp only;refine sr rfl ?_;refine p1 (dU) ?_;refine RV.done ?_;refine CV.seq ?_;refine CV.cond rfl (fun hc=>?_) (fun hc=>?_)
 ·have hlt:k<L.length:=(by have:=of_decide_eq_true hc; omega)
  refine CV.skip ?_;refine CV.seq ?_;refine CV.block ?_;refine sr rfl ?_;refine p1 (dB (k:=some 5) (i:=k) (aFl hlt) oY aFv) ?_;refine p1 (bO iR) ?_;refine p2 (aU (i:=0) rM) ?_;refine p1 (aQ (iR).2) ?_;refine RV.done ?_;refine CV.region rfl (fun h=>nomatch h) ?_;refine xm ?_;refine p1 (bH qH) ?_;refine p1 (bI 0 qE cQ) ?_;refine p1 (fZ (k:=none) (xs:=[.tmp 15]) (ss:=dX [(L.getD k ([],0)).1] B) (G:=Dm.gen (bY none (dX [(L.getD k ([],0)).1] B))) (cM _ _) jC tW rfl rfl rfl vR pQ rfl rfl bd (xa rfl)) ?_;refine iN (aM.plain (mA (r:=100) (r':=101) (k:=none) (iZ (by decide) pQ) (by rw[iW,iW,List.length_map,List.length_take]; simp; omega) (by rw[iW,iW,List.length_map,List.length_take]; simp; omega) jC aDq rfl rfl rfl yD rfl rfl rfl bd rfl rfl rfl rfl rfl rfl rfl rfl) rfl) ?_;refine xn ?_;refine RV.done ?_;refine CV.region rfl (fun h=>nomatch h) ?_;refine p1 (cJ (c:=((k+1:Nat):Int)) (by rw[bU (by omega) (by omega)]; omega) rfl rfl bd rfl rfl) ?_;refine xm ?_;refine RV.done ?_;exact⟨⟨k+1,hlt⟩,jX (fun i=>if i=100 then 101 else i) ⟨fK,fK,fun _ _ _ _ h=>h,lJ rfl (by rw[<- yA _ _ hlt ([],0),sM,List.length_append]),eO (by rw[<- yA _ _ hlt ([],0),sM]),trivial⟩ rfl rfl rfl rfl,by show L.length-(k+1)<L.length-k; omega⟩
 ·refine CV.exit ?_;refine CV.seq ?_;have hk2:k=L.length:=(by have:=of_decide_eq_false hc; omega)
  subst hk2;rw[List.take_length];refine jU (r:=100) (t:=3) (G:=Dm.gen (bY none (dX (L.map (·.1)) B))) (cx.bw hfr) rfl rfl rfl rfl rfl (cM _ _) (iF _ _) ?_;refine CV.region rfl (fun h=>nomatch h) ?_;refine xm ?_;refine xn ?_;refine RV.done ?_;refine CV.ret ?_;exact aR rfl (.inr rfl) rfl cC
theorem aJf (p:List Rat) (L:List (List Rat × Rat)) (B:Nat) (hB:B<=300000) (hp:p.length<=1000000) (h:lS B p=some L) (hL:L.length<=1000000) (hl:∀ e∈L,e.1.length<=1000000) (hz:∀ e∈L,aG (aN e.1 e.2) B=true):aD Tryz.prog 15 [PL p B] (.one (kO (L.map fun e=>aN e.1 e.2) B)):=by
 refine aD.of (n:=23) Tryz.func15 rfl rfl rfl rfl rfl fun cx hfr=>?_;refine sr rfl ?_;refine xn ?_;refine RV.done (sr rfl ?_);refine xn ?_;refine RV.done ?_;refine CV.seq ?_;refine CV.seq ?_;refine oL 3 100 24 none rfl rfl rfl rfl ?_;refine CV.region rfl (fun h=>nomatch h) ?_;refine xm ?_;refine xc (aGm p L B hB hp h) Tryz.func48 (xa rfl) hfr ?_;refine p1 (bJ nL oY) ?_;refine xm ?_;refine RV.done ?_;refine CV.block ?_;refine CV.loop (X:={k:Nat // k<=L.length}) (fun k=>[(.s 9,.av (.one (.v (.int .i64 (k.1:Int))))),(.s 8,.av (.one (.v (.int .i64 (L.length:Int))))),(.s 7,.av (.one (uZ L B))),(.s 3,.av (.one (.sl 100 (dX ((L.take k.1).map fun e=>aN e.1 e.2) B).length))),(.b 100,.row 24 none (dX ((L.take k.1).map fun e=>aN e.1 e.2) B))]) (fun k=>L.length-k.1) ⟨0,Nat.zero_le _⟩ (bF.mk ⟨aC _,aC _,aC _,aC _,aC _,trivial⟩ rfl rfl) (fun k=>?_);obtain⟨k,hk⟩:=k;simp only;refine sr rfl ?_;refine p1 (dU) ?_;refine RV.done ?_;refine CV.seq ?_;refine CV.cond rfl (fun hc=>?_) (fun hc=>?_)
 ·have hlt:k<L.length:=(by have:=of_decide_eq_true hc; omega)
  have hmem:L.getD k ([],0)∈L:=(by rw[List.getD_eq_getElem?_getD,List.getElem?_eq_getElem hlt]; exact List.getElem_mem _)
  refine CV.skip ?_;refine CV.seq ?_;refine CV.block ?_;refine sr rfl ?_;refine p1 (dB (k:=some 5) (i:=k) (aFl hlt) oY aFv) ?_;refine p1 (bO iR) ?_;refine p2 (aU (i:=0) rM) ?_;refine p1 (aQ (iR).2) ?_;refine RV.done ?_;refine CV.region rfl (fun h=>nomatch h) ?_;refine xm ?_;refine p1 (bH qH) ?_;refine p1 (bI 0 qE cQ) ?_;refine p1 (bH aNf) ?_;refine p1 (bI 1 aNe aB) ?_;refine xd rfl ((pN (L.getD k ([],0)).1 (L.getD k ([],0)).2 B B (by omega) (by omega) (hl _ hmem)).mono (fun _ _ _ _ h=>h) (dJ (hz _ hmem))) Tryz.func38 (xb rfl rfl) hfr ?_;refine p1 (fZ (k:=none) (xs:=[.tmp 18]) (ss:=dX [aN (L.getD k ([],0)).1 (L.getD k ([],0)).2] B) (G:=Dm.gen (bY none (dX [aN (L.getD k ([],0)).1 (L.getD k ([],0)).2] B))) (cM _ _) jC tW rfl rfl rfl vR pQ rfl rfl bd (xa rfl)) ?_;refine iN (aM.plain (mA (r:=100) (r':=101) (k:=none) (iZ (by decide) pQ) (by rw[iW,iW,List.length_map,List.length_take]; simp; omega) (by rw[iW,iW,List.length_map,List.length_take]; simp; omega) jC aDq rfl rfl rfl yD rfl rfl rfl bd rfl rfl rfl rfl rfl rfl rfl rfl) rfl) ?_;refine xn ?_;refine RV.done ?_;refine CV.region rfl (fun h=>nomatch h) ?_;refine p1 (cJ (c:=((k+1:Nat):Int)) (by rw[bU (by omega) (by omega)]; omega) rfl rfl bd rfl rfl) ?_;refine xm ?_;refine RV.done ?_;exact⟨⟨k+1,hlt⟩,jX (fun i=>if i=100 then 101 else i) ⟨fK,fK,fun _ _ _ _ h=>h,lJ rfl (by rw[<- yA (fun e:List Rat × Rat=>aN e.1 e.2) _ hlt ([],0),sM,List.length_append]),eO (by rw[<- yA (fun e:List Rat × Rat=>aN e.1 e.2) _ hlt ([],0),sM]),trivial⟩ rfl rfl rfl rfl,by show L.length-(k+1)<L.length-k; omega⟩
 ·refine CV.exit ?_;refine CV.seq ?_;have hk2:k=L.length:=(by have:=of_decide_eq_false hc; omega)
  subst hk2;rw[List.take_length];refine jU (r:=100) (t:=3) (G:=Dm.gen (bY none (dX (L.map fun e=>aN e.1 e.2) B))) (cx.bw hfr) rfl rfl rfl rfl rfl (cM _ _) (iF _ _) ?_;refine CV.region rfl (fun h=>nomatch h) ?_;refine xm ?_;refine xn ?_;refine RV.done ?_;refine CV.ret ?_;exact aR rfl (.inr rfl) rfl cC
def cN (a:Rat):Int:=aY a.num 0
theorem aMt (a:Rat) : -1<=cN a/\cN a<=1:=by
 unfold cN aY;split
 ·omega
 ·split<;>omega
theorem vZ (p:List Rat) (x:Rat) (K Kx:Nat) (hp:p.length<=1000000) (hK:K<=1000000) (hKx:Kx<=1000000) (hK1:1<=K) (hKx1:1<=Kx) (hpz:aG p K=true) (hxz:aG [x] Kx=true) (hbd:iD K Kx p.length<=1000000):aD Tryz.prog 49 [PL p K,RT x Kx] (.one (.v (.int .i64 (cN (ev p x))))):=by
 refine aD.of (n:=9) Tryz.func49 rfl rfl rfl rfl rfl fun cx hfr=>?_;refine sr rfl ?_;refine p2 (cA (i:=0)) ?_;refine xn ?_;refine RV.done (sr rfl ?_);refine xm ?_;refine p1 (aJ aB) ?_;refine xc (aS5 p x K Kx hp hK hKx hK1 hKx1 hpz hxz hbd) Tryz.func99 (xb rfl rfl) hfr ?_;refine xc (yR _ _) Tryz.func98 (xa rfl) hfr ?_;refine xn ?_;refine RV.done ?_;refine CV.ret ?_;rw[aWu];exact aR rfl (.inr rfl) rfl cC
def jN (x:Rat):List (List Rat)->Int × Int->Int × Int
 | [],s=>s
 | p::l,s=>jN x l (if cN (ev p x)*s.2<0 then s.1+1 else s.1,if cN (ev p x)≠0 then cN (ev p x) else s.2)
def bG (x:Rat) (l:List (List Rat)):Int:=(jN x l (0,0)).1
theorem aSp {l:List (List Rat)} {k:Nat} (h:k<l.length):l.drop k=l.getD k []::l.drop (k+1):=by
 rw[List.drop_eq_getElem_cons h];simp[List.getD_eq_getElem?_getD,List.getElem?_eq_getElem h]
theorem aXj {a b:Int} (ha : -1<=a/\a<=1) (hb : -1<=b/\b<=1) : -1<=a*b/\a*b<=1:=by
 rcases (by omega:a = -1\/a=0\/a=1) with rfl | rfl | rfl<;>omega
def fS (l:List (List Rat)) (x:Rat) (K Kx:Nat):Prop:=K<=1000000/\Kx<=1000000/\1<=K/\1<=Kx/\aG [x] Kx=true/\∀ p∈l,p.length<=1000000/\aG p K=true/\iD K Kx p.length<=1000000
theorem xZ (l:List (List Rat)) (x:Rat) (K Kx:Nat) (hl:l.length<=1000000) (hE:fS l x K Kx):aD Tryz.prog 16 [kO l K,RT x Kx] (.one (.v (.int .i64 (bG x l)))):=by
 obtain⟨hK,hKx,hK1,hKx1,hxz,hall⟩:=hE;have hR:jN x (l.drop 0) (0,0)=jN x l (0,0):=by rw[List.drop_zero]
 refine aD.of (n:=30) Tryz.func16 rfl rfl rfl rfl rfl fun cx hfr=>?_;refine sr rfl ?_;refine p2 (cA (i:=0)) ?_;refine xn ?_;refine RV.done (sr rfl ?_);refine xn ?_;refine xn ?_;refine RV.done ?_;refine CV.seq ?_;refine sr rfl ?_;refine xm ?_;refine p1 (bJ iW jC) ?_;refine xm ?_;refine RV.done ?_;refine CV.block ?_;refine CV.loop (X:={z:Nat × Int × Int // z.1<=l.length/\jN x (l.drop z.1) z.2=jN x l (0,0)/\(0<=z.2.1/\z.2.1<=z.1)/\(-1<=z.2.2/\z.2.2<=1)}) (fun z=>[(.s 12,.av (.one (.v (.int .i64 (z.1.1:Int))))),(.s 11,.av (.one (.v (.int .i64 (l.length:Int))))),(.s 10,.av (.one (kO l K))),(.s 5,.av (.one (.v (.int .i64 z.1.2.1)))),(.s 6,.av (.one (.v (.int .i64 z.1.2.2)))),(.s 3,.av (.one (.ptr 0 0))),(.b 0,.blk 31 [(some 4,RT x Kx)])]) (fun z=>l.length-z.1.1) ⟨(0,0,0),Nat.zero_le _,hR,by decide,by decide⟩ (bF.mk ⟨aC _,aC _,aC _,aC _,aC _,aC _,aC _,trivial⟩ rfl rfl) (fun z=>?_);obtain⟨⟨k,n,b⟩,hk,hs,hn,hb1⟩:=z;simp only at hk hs hn hb1 |-;refine sr rfl ?_;refine p1 (dU) ?_;refine RV.done ?_;refine CV.seq ?_;refine CV.cond rfl (fun hc=>?_) (fun hc=>?_)
 ·have hlt:k<l.length:=(by have:=of_decide_eq_true hc; omega)
  have hmem:l.getD k []∈l:=(by rw[List.getD_eq_getElem?_getD,List.getElem?_eq_getElem hlt]; exact List.getElem_mem _)
  obtain⟨q1,q2,q3⟩:=hall _ hmem;rw[aSp hlt,jN] at hs;have hg:=aMt (ev (l.getD k []) x);have hm:=aXj hg hb1;simp only at hs;refine CV.skip ?_;refine CV.seq ?_;refine CV.block ?_;refine sr rfl ?_;refine p1 (dB (k:=none) (i:=k) (aEk hlt) jC tJ) ?_;refine p1 (bO cQ) ?_;refine xn ?_;refine RV.done (sr rfl ?_);refine xm ?_;refine p1 (aJ aB) ?_;refine xc (vZ (l.getD k []) x K Kx q1 hK hKx hK1 hKx1 q2 hxz q3) Tryz.func49 (xb rfl rfl) hfr ?_;refine xn ?_;refine RV.done ?_;refine CV.seq ?_;refine sr rfl ?_;refine xm ?_;refine xm ?_;refine p1 (aXq (c:=cN (ev (l.getD k []) x)*b) (bU (by omega) (by omega)) rfl rfl bd rfl rfl) ?_;refine p1 (dU) ?_;refine RV.done ?_;refine CV.cond rfl (fun hx1=>?_) (fun hx1=>?_)
  ·refine CV.region rfl (fun h=>nomatch h) ?_;refine xm ?_;refine p1 (cJ (c:=n+1) (bU (by omega) (by omega)) rfl rfl bd rfl rfl) ?_;refine xn ?_;refine RV.done (sr rfl ?_);refine xm ?_;refine p1 (rX) ?_;refine RV.done ?_;refine CV.cond rfl (fun hx2=>?_) (fun hx2=>?_)
   ·refine CV.region rfl (fun h=>nomatch h) ?_;refine xm ?_;refine xn ?_;refine RV.done ?_;refine CV.region rfl (fun h=>nomatch h) ?_;refine p1 (cJ (c:=((k+1:Nat):Int)) (by rw[bU (by omega) (by omega)]; omega) rfl rfl bd rfl rfl) ?_;refine xm ?_;refine RV.done ?_;have h1:=of_decide_eq_true hx1;have h2:cN (ev (l.getD k []) x)≠0:=(by simpa using hx2)
    rw[if_pos h1,if_pos h2] at hs;exact⟨⟨(k+1,n+1,cN (ev (l.getD k []) x)),hlt,hs,⟨by show 0<=n+1; omega,by show n+1<=((k+1:Nat):Int); omega⟩,hg⟩,bF.mk ⟨aC _,aC _,aC _,aC _,aC _,aC _,aC _,trivial⟩ rfl rfl,by show l.length-(k+1)<l.length-k; omega⟩
   ·refine CV.skip ?_;refine CV.region rfl (fun h=>nomatch h) ?_;refine p1 (cJ (c:=((k+1:Nat):Int)) (by rw[bU (by omega) (by omega)]; omega) rfl rfl bd rfl rfl) ?_;refine xm ?_;refine RV.done ?_;have h1:=of_decide_eq_true hx1;have h2:¬ cN (ev (l.getD k []) x)≠0:=(by simpa using hx2)
    rw[if_pos h1,if_neg h2] at hs;exact⟨⟨(k+1,n+1,b),hlt,hs,⟨by show 0<=n+1; omega,by show n+1<=((k+1:Nat):Int); omega⟩,hb1⟩,bF.mk ⟨aC _,aC _,aC _,aC _,aC _,aC _,aC _,trivial⟩ rfl rfl,by show l.length-(k+1)<l.length-k; omega⟩
  ·refine CV.skip ?_;refine sr rfl ?_;refine xm ?_;refine p1 (rX) ?_;refine RV.done ?_;refine CV.cond rfl (fun hx2=>?_) (fun hx2=>?_)
   ·refine CV.region rfl (fun h=>nomatch h) ?_;refine xm ?_;refine xn ?_;refine RV.done ?_;refine CV.region rfl (fun h=>nomatch h) ?_;refine p1 (cJ (c:=((k+1:Nat):Int)) (by rw[bU (by omega) (by omega)]; omega) rfl rfl bd rfl rfl) ?_;refine xm ?_;refine RV.done ?_;have h1:=of_decide_eq_false hx1;have h2:cN (ev (l.getD k []) x)≠0:=(by simpa using hx2)
    rw[if_neg h1,if_pos h2] at hs;exact⟨⟨(k+1,n,cN (ev (l.getD k []) x)),hlt,hs,⟨hn.1,by show n<=((k+1:Nat):Int); omega⟩,hg⟩,bF.mk ⟨aC _,aC _,aC _,aC _,aC _,aC _,aC _,trivial⟩ rfl rfl,by show l.length-(k+1)<l.length-k; omega⟩
   ·refine CV.skip ?_;refine CV.region rfl (fun h=>nomatch h) ?_;refine p1 (cJ (c:=((k+1:Nat):Int)) (by rw[bU (by omega) (by omega)]; omega) rfl rfl bd rfl rfl) ?_;refine xm ?_;refine RV.done ?_;have h1:=of_decide_eq_false hx1;have h2:¬ cN (ev (l.getD k []) x)≠0:=(by simpa using hx2)
    rw[if_neg h1,if_neg h2] at hs;exact⟨⟨(k+1,n,b),hlt,hs,⟨hn.1,by show n<=((k+1:Nat):Int); omega⟩,hb1⟩,bF.mk ⟨aC _,aC _,aC _,aC _,aC _,aC _,aC _,trivial⟩ rfl rfl,by show l.length-(k+1)<l.length-k; omega⟩
 ·refine CV.exit ?_;refine CV.seq ?_;have hk2:k=l.length:=(by have:=of_decide_eq_false hc; omega)
  rw[hk2,List.drop_length,jN] at hs;have hn2:n=bG x l:=(by rw[bG,<- hs])
  rw[hn2];refine CV.region rfl (fun h=>nomatch h) ?_;refine xm ?_;refine xn ?_;refine RV.done ?_;refine CV.ret ?_;exact aR rfl (.inr rfl) rfl cC
theorem aMb (x:Rat):∀ (l:List (List Rat)) (s:Int × Int),s.1<=(jN x l s).1/\(jN x l s).1<=s.1+l.length
 | [],s=>by rw[jN]; exact⟨Int.le_refl _,by simp⟩
 | p::l,s=>by
  rw[jN];obtain⟨A,hA⟩:∃ A,A=(if cN (ev p x)*s.2<0 then s.1+1 else s.1):=⟨_,rfl⟩
  rw[<- hA];have h:=aMb x l (A,if cN (ev p x)≠0 then cN (ev p x) else s.2);have h1:s.1<=A/\A<=s.1+1:=by rw[hA]; split<;>omega
  generalize (jN x l (A,if cN (ev p x)≠0 then cN (ev p x) else s.2)).1=C at h |-;have h2:A<=C/\C<=A+l.length:=h;rw[List.length_cons];omega
theorem mT (x:Rat) (l:List (List Rat)):0<=bG x l/\bG x l<=l.length:=by
 have:=aMb x l (0,0);simp only at this;unfold bG;omega
def gL (l:List (List Rat)) (lo hi:Rat):Int:=if iC lo hi >= 0 then 0 else bG lo l-bG hi l
theorem yS (p:List Rat) (L:List (List Rat × Rat)) (lo hi:Rat) (B K:Nat) (hB:B<=300000) (hp:p.length<=1000000) (h:lS B p=some L) (hL:L.length<=1000000) (h1:fS (L.map (·.1)) lo B K) (h2:fS (L.map (·.1)) hi B K):aD Tryz.prog 25 [PL p B,RT lo K,RT hi K] (.one (.v (.int .i64 (gL (L.map (·.1)) lo hi)))):=by
 have hll:(L.map (·.1)).length<=1000000:=by rw[List.length_map]; exact hL
 have b1:=mT lo (L.map (·.1));have b2:=mT hi (L.map (·.1));have hK7:=h1.2.1;refine aD.of (n:=21) Tryz.func25 rfl rfl rfl rfl rfl fun cx hfr=>?_;refine sr rfl ?_;refine p2 (cA (i:=0)) ?_;refine p2 (cA (i:=1)) ?_;refine xn ?_;refine RV.done ?_;refine CV.seq ?_;refine sr rfl ?_;refine p1 (aJ aB) ?_;refine p1 (aJ aB) ?_;refine xd rfl (aBu lo hi K K (by omega) (by omega)) Tryz.func55 (xb rfl rfl) hfr ?_;refine p1 (rZ) ?_;refine RV.done ?_;refine CV.cond rfl (fun hc=>?_) (fun hc=>?_)
 ·refine sr rfl ?_;refine xn ?_;refine RV.done ?_;refine CV.ret ?_;rw[gL,if_pos (of_decide_eq_true hc)];exact aR rfl (.inr rfl) rfl cC
 ·refine CV.skip ?_;refine sr rfl ?_;refine xm ?_;refine xc (aH4 p L B hB hp h hL) Tryz.func64 (xa rfl) hfr ?_;refine xn ?_;refine RV.done ?_;refine CV.seq ?_;refine CV.region rfl (fun _=>by kernel_rfl) ?_;refine xm ?_;refine p1 (aJ aB) ?_;refine xc (xZ (L.map (·.1)) lo B K hll h1) Tryz.func16 (xb rfl rfl) hfr ?_;refine xm ?_;refine p1 (aJ aB) ?_;refine xc (xZ (L.map (·.1)) hi B K hll h2) Tryz.func16 (xb rfl rfl) hfr ?_;refine p1 (eB (c:=bG lo (L.map (·.1))-bG hi (L.map (·.1))) (bU (by omega) (by omega)) rfl rfl bd rfl rfl) ?_;refine xn ?_;refine bV (by kernel_rfl) ?_;refine CV.ret ?_;rw[gL,if_neg (of_decide_eq_false hc)];exact aR rfl (.inr rfl) rfl cC
theorem aCf (lo hi:Rat) (j k:Nat) (hj:j<=1000000) (hk:k<=1000000):aD Tryz.prog 69 [RT lo j,RT hi k] (.one (RT ((lo+hi)*Rat.divInt 1 2) (3*(3*(j+k)+20+6)+20))):=by
 refine aD.of (n:=10) Tryz.func69 rfl rfl rfl rfl rfl fun cx hfr=>?_;refine sr rfl ?_;refine p2 (cA (i:=0)) ?_;refine p2 (cA (i:=1)) ?_;refine p2 (aU (i:=2) bX) ?_;refine RV.done (sr rfl ?_);refine p1 (aJ aB) ?_;refine p1 (aJ aB) ?_;refine xd rfl (tV lo hi j k (by omega) (by omega)) Tryz.func56 (xb rfl rfl) hfr ?_;refine xd rfl (oV 1 2 (by decide) (by decide) (by decide) (by decide)) Tryz.func57 (xb rfl rfl) hfr ?_;refine xd rfl (nT (lo+hi) (Rat.divInt 1 2) (3*(j+k)+20) 6 (by omega) (by omega)) Tryz.func87 (xb rfl rfl) hfr ?_;refine p1 (aQ (aB).2) ?_;refine RV.done ?_;refine CV.ret ?_;exact aR rfl (.inr rfl) ⟨_,_,_,_,_,rfl,rfl,rfl,aB⟩ cC
end Vc
end Go.Proofs.YtjmbkipbmbnhjaaGreat

namespace Go.Proofs.YtjmbkipbmbnhjaaGreat
open Go.RowKit
open Dg Zn
namespace Vc
inductive mM:List Rat->List Rat->List (List Rat)->Prop
 | nil (a:List Rat):mM a [] []
 | cons {a b r:List Rat} {l:List (List Rat)}:aI b=b->b≠[]->aI r=r->r.length<b.length->(∃ W:List Rat,∀ x,ev a x+ev r x=ev W x*ev b x)->mM b r l->mM a b (b::l)
theorem aI8 {a b:List Rat} {l:List (List Rat)} (h:mM a b l):∀ {l'},mM a b l'->l=l':=by
 induction h with
 | nil a =>
  intro l' h';cases h' with
  | nil=>rfl
  | cons h1 h2=>exact absurd rfl h2
 | @cons a b r l tb b0 tr hr hW hl ih =>
  intro l' h';cases h' with
  | nil=>exact absurd rfl b0
  | @cons _ _ r' l2 _ _ tr' hr' hW' hl' =>
   have e:r=r':=by
    obtain⟨W,hW⟩:=hW;obtain⟨W',hW'⟩:=hW';have hz:fN r r'=[]:=by
     refine aCv (cF _) tb ?_ ⟨fN W W',fun x=>?_⟩
     ·have:(fN r r').length<=max r.length r'.length:=by
       unfold fN;refine Nat.le_trans (iL _) ?_;rw[eX];exact Nat.le_refl _
      omega
     ·have h1:=hW x;have h2:=hW' x;rw[lM,lM];grind
    refine jF tr tr' fun x=>?_;have:=lM r r' x;rw[hz,ev] at this;grind
   subst e;rw[ih hl']
inductive jR (B:Nat):List Rat->List Rat->List (List Rat)->Prop
 | nil (a:List Rat):jR B a [] []
 | cons {a b U R:List Rat} {l:List (List Rat)}:aI a=a->aG a B=true->aI b=b->b≠[]->aG b B=true->dE B a b=some (U,R)->R.length<b.length->aG R B=true->jR B b (aN R (-1)) l->jR B a b (b::l)
structure uY (M X:Nat) (e:List Rat × Rat):Prop where
 tr:aI e.1=e.1
 ne:e.1≠[]
 len:e.1.length<=M
 pos:0<e.2
 cm:Cm 1 e.1 X
 few:dP e.2 (2*X)
 cb:Cb (aN e.1 e.2) X
theorem aRf (a:Rat):aN [] a=[]:=rfl
theorem aJt {p:List Rat} {a:Rat} (hp:aI p=p) (h0:p≠[]) (ha:a≠0):aN p a≠[]:=by
 intro h;have:=(kQ hp ha).1;rw[h] at this;exact h0 (List.eq_nil_of_length_eq_zero this.symm)
theorem aKl {p:List Rat} {c:Nat} (h:Cb p c):dP (aH p) c:=h.few (p.length-1)
theorem aUu {B Z M X:Nat} (hB:1<=B) (hZ:Z<=5*5*2^(M-1)*X) (hXB:6*X<=29*B) :
  ∀ (f:Nat) (l:List (List Rat × Rat)) (p q:List Rat) (s t:Rat) (c d:Nat),l.getD (l.length-1) ([],0)=(p,s)->q.length<f->aI p=p->aI q=q->p≠[]->q.length<p.length->p.length<=M->Cm 1 p c->Cm 1 q d->Cb (aN p s) c->Cb (aN q t) d->c<=X->d<=X->(2*(c+1)+5*(d+1))*gB M p.length<=Z->0<s->dP s (2*X)->(q≠[]->0<t/\dP t (2*X)) ->
  ∃ es,kY B f l (q,t)=some (l++es)/\(∀ z∈es,uY M X z)/\es.length<=q.length/\jR B (aN p s) (aN q t) (es.map fun z=>aN z.1 z.2):=by
 intro f
 induction f with
 | zero=>intro l p q s t c d _ h; omega
 | succ f ih =>
  intro l p q s t c d hl hf tp tq hp0 hlt hpM hpc hqd hpa hqa hcX hdX hP hs fs ht;rw[kY];by_cases hq:0<q.length
  ·rw[if_pos hq,hl];have hq0:q≠[]:=List.length_pos_iff.1 hq;obtain⟨ht0,ft⟩:=ht hq0;have ht1:t≠0:=by grind
   have hs1:s≠0:=by grind
   have hti:=Rat.mul_inv_cancel t ht1;obtain⟨g,hg⟩:∃ g,p.length=q.length+g:=⟨p.length-q.length,by omega⟩
   have hsteps:p.length+1-q.length=g+1:=by omega
   rw[hg] at hP;have hW:=aC7 (by omega) (by omega) hP;have hbd:=vN hq (by omega) (Nat.le_trans (Nat.mul_le_mul_right _ (show 5*(c+(g+1)*(d+1)+1)<=_ by omega)) hW) hZ;have hmul:(g+1)*(d+1)=(g+1)*d+(g+1):=by rw[Nat.mul_add,Nat.mul_one]
   obtain⟨R,T,r1,r2,r3,r4,r5,r6,W,r7⟩:=aU5 (s:=s) (t:=t) (e:=2*X) hB tp hp0 tq hq0 hpc hqd fs hs (by unfold uT; rw[hsteps]; omega) (by unfold uT; rw[hsteps]; omega);rw[hsteps] at r4 r5;obtain⟨la,_⟩:=kQ tp hs1;obtain⟨lb,_⟩:=kQ tq ht1;have hb0:=aJt tq hq0 ht1;obtain⟨U,R',k1,k2,k3,k4,k5,k6,k7,k8⟩:=vU (p:=aN p s) (q:=aN q t) hB (cF _) (cF _) hb0 hpa hqa (by unfold jM; rw[la,lb,hsteps]; omega);have k8':Cb R' (c+(g+1)*(d+1)):=by
    unfold jM at k8;rw[la,lb,hsteps] at k8;exact k8.mono (by omega)
   have hlR:=kS R T;have hz:fC (aN R T) R'=[]:=by
    refine aCv (q:=aN q t) (cF _) (cF _) ?_ ⟨fN (aN W t⁻¹) U,fun x=>?_⟩
    ·have:=aD4 (aN R T) R';omega
    ·have h1:=r7 x;have h2:=k6 x;rw[cB,cB] at h2;rw[jZ,lM,cB,cB,cB];grind
   have hr:aN R T=aN R' (-1):=jF (cF _) (cF _) fun x=>by
    have:=jZ (aN R T) R' x;rw[hz,ev] at this;rw[cB R' (-1)];grind
   have hra:Cb (aN R T) (c+(g+1)*(d+1)):=by
    rw[hr];exact k8'.scale aXy
   have fT:R≠[]->0<T/\dP T (2*X):=fun h0=>by
    have hT:=r6 h0;have hT1:T≠0:=by grind
    have e1:=(kQ r2 hT1).2;have hl0:=fA r2 h0;have hli:=Rat.mul_inv_cancel _ hl0;have e2:T=aH (aN R T)*(aH R)⁻¹:=by
     rw[e1];grind
    refine⟨hT,?_⟩;rw[e2];exact zH (aEs (aKl hra) (aEt hl0 (aKl (mW r4)))) (by omega)
   obtain⟨es,j1,j2,j3,j4⟩:=ih (l++[(q,t)]) q R t T d (c+(g+1)*(d+1)) (by
     rw[List.getD_eq_getElem?_getD,List.length_append,List.length_singleton,Nat.add_sub_cancel,List.getElem?_append_right (Nat.le_refl _),Nat.sub_self];rfl) (by omega) tq r2 hq0 (by omega) (by omega) hqd r4 hqa hra hdX (by omega) hW ht0 ft fT
   refine⟨(q,t)::es,?_,?_,?_,?_⟩
   ·rw[r1];show kY B f (l++[(q,t)]) (R,T)=_;rw[j1,List.append_assoc];rfl
   ·intro z hz;rcases List.mem_cons.1 hz with rfl | hz
    ·exact⟨tq,hq0,by show q.length<=M; omega,ht0,hqd.mono hdX,ft,hqa.mono hdX⟩
    ·exact j2 z hz
   ·rw[List.length_cons];omega
   ·refine jR.cons (b:=aN q t) (R:=R') (cF _) (hpa.sz hB (by omega)) (cF _) hb0 (hqa.sz hB (by omega)) k1 k4 (k8'.sz hB (by omega)) ?_;rw[<- hr];exact j4
  ·rw[if_neg hq];obtain rfl:=List.eq_nil_of_length_eq_zero (show q.length=0 by omega);exact⟨[],by rw[List.append_nil],(fun z hz=>nomatch hz),Nat.le_refl _,.nil _⟩
theorem aKz {p:List Rat} {c:Nat} (h:Cb p c):∃ κ:Rat,κ≠0/\∀ k,∃ z:Int,p.getD k 0 = κ*(z:Rat)/\z.natAbs<=2^c:=by
 obtain⟨m,m1,m2,m3⟩:=h;have hm:=nV m1;have hi:=Rat.mul_inv_cancel _ hm;refine⟨(m:Rat)⁻¹,fun e=>?_,fun k=>?_⟩
 ·rw[e] at hi;grind
 ·obtain⟨z,z1,z2⟩:=m3 k;exact⟨z,by rw[<- z1]; grind,z2⟩
theorem aEr:dP 1 0:=⟨1,1,by decide,by rw[lI]; rfl,by decide,by decide⟩
theorem aUs {B M c X:Nat} {p F:List Rat} (hB:1<=B) (hF:kG B p=some F) (tF:aI F=F) (F0:F≠[]) (hFM:F.length<=M) (hM8:M<=8) (hc:Cb F c) (hX:(7*(c+4))*5^M<=5*5*2^(M-1)*X) (hcX:c+3<=X) (hXB:6*X<=29*B) :
  ∃ L,lS B p=some L/\L.length<=M/\(∀ z∈L,uY M X z)/\∃ l,L.map (fun z=>aN z.1 z.2)=F::l/\jR B F (cD F) l:=by
 have hFl:=List.length_pos_iff.2 F0;have hM1:1<=M:=by omega
 have dl:=vH F;have hd:Cb (cD F) (c+3):=hc.derive (t:=3) (by omega);have s1:aG [(1:Rat)] B=true:=nX hB (Nat.zero_le _) aEr;have s2:aG (cD F) B=true:=hd.sz hB (by omega);obtain⟨κ,κ0,κ1⟩:=aKz hc;obtain⟨A,s,a1,a2,a3,a4,a5,a6,a,a7,a8,a9⟩:=aDa hB tF F0 hc aEr (by omega) (by omega) κ0 κ1;have hs:=a6 (by decide);have eF:aN A s=F:=jF (cF _) tF fun x=>by
  rw[cB,a8];have:a*ev F x*s=s*a*ev F x:=by grind
  rw[this,a9,Rat.one_mul]
 have hAl:A≠[]:=fun q=>by rw[q] at a3; exact F0 (List.eq_nil_of_length_eq_zero a3.symm)
 have second:∃ (D:List Rat) (t:Rat),gR B (cD F) 1=some (D,t)/\aI D=D/\D.length<=F.length-1/\Cm 1 D (c+3)/\(D≠[]->0<t/\dP t (2*X))/\aN D t=cD F:=by
  by_cases h0:cD F=[]
  ·refine⟨[],0,by unfold gR; rw[if_pos h0],rfl,Nat.zero_le _,fun k=>⟨0,by rw[cP (Nat.zero_le _),Rat.zero_mul]; rfl,Nat.zero_le _⟩,fun h=>absurd rfl h,by rw[h0]; rfl⟩
  ·obtain⟨κ',κ2,κ3⟩:=aKz hd;obtain⟨D,t,d1,d2,d3,d4,d5,d6,b,d7,d8,d9⟩:=aDa (p:=cD F) hB (cF _) h0 hd aEr (by omega) (by omega) κ2 κ3;refine⟨D,t,d1,d2,by rw[d3]; exact dl,d4,fun _=>⟨d6 (by decide),zH d5 (by omega)⟩,jF (cF _) (cF _) fun x=>?_⟩;rw[cB,d8];have:b*ev (cD F) x*t=t*b*ev (cD F) x:=by grind
   rw[this,d9,Rat.one_mul]
 obtain⟨D,t,d1,d2,d3,d4,d6,d7⟩:=second;have hpot:(2*(c+1)+5*(c+3+1))*gB M A.length<=5*5*2^(M-1)*X:=by
  refine Nat.le_trans (Nat.mul_le_mul (show 2*(c+1)+5*(c+3+1)<=7*(c+4) by omega) (aE6 (by omega))) hX
 obtain⟨es,k1,k2,k3,k4⟩:=aUu hB hpot hXB (F.length+2) [(A,s)] A D s t c (c+3) rfl (by omega) a2 d2 hAl (by omega) (by omega) a4 d4 (by rw[eF]; exact hc) (by rw[d7]; exact hd) (by omega) (by omega) (Nat.le_refl _) hs (zH a5 (by omega)) d6;refine⟨(A,s)::es,?_,by rw[List.length_cons]; omega,?_,es.map (fun z=>aN z.1 z.2),by rw[List.map_cons,eF],by rw[eF,d7] at k4; exact k4⟩
 ·unfold lS;rw[hF];show (if F=[] then some [] else if (aG [(1:Rat)] B&&(aG (cD F) B&&decide (F.length<=1000)))=true then (gR B F 1).bind fun a=>(gR B (cD F) 1).bind fun b=>kY B (F.length+2) [a] b else none)=_;rw[if_neg F0,s1,s2,decide_eq_true (show F.length<=1000 by omega),if_pos (by rfl),a1];show ((gR B (cD F) 1).bind fun b=>kY B (F.length+2) [(A,s)] b)=_;rw[d1];exact k1
 ·intro z hz;rcases List.mem_cons.1 hz with rfl | hz
  ·exact⟨a2,hAl,by show A.length<=M; omega,hs,a4.mono (by omega),zH a5 (by omega),by show Cb (aN A s) X; rw[eF]; exact hc.mono (by omega)⟩
  ·exact k2 z hz
end Vc
end Go.Proofs.YtjmbkipbmbnhjaaGreat

namespace Go.Proofs.YtjmbkipbmbnhjaaGreat
open Go.RowKit
open Go.Lib (hid)
open Dg Zn
namespace Vc
set_option maxRecDepth 100000
theorem aMv {B:Nat} {a b:List Rat} {l:List (List Rat)} (h:jR B a b l):aG b B=true:=by
 cases h with
 | nil=>rfl
 | cons _ _ _ _ h=>exact h
theorem aTq {B:Nat} {a b:List Rat} {r:List (List Rat)} (h:jR B a b r) (hl:0<b.length):∃ U R r',r=b::r'/\aI a=a/\aG a B=true/\aI b=b/\b≠[]/\aG b B=true/\dE B a b=some (U,R)/\R.length<b.length/\aG R B=true/\jR B b (aN R (-1)) r':=by
 cases h with
 | nil=>exact absurd hl (Nat.lt_irrefl 0)
 | cons w1 w2 w3 w4 w5 w6 w7 w8 w9=>exact⟨_,_,_,rfl,w1,w2,w3,w4,w5,w6,w7,w8,w9⟩
theorem aV3 {B:Nat} {a:List Rat} {r:List (List Rat)} (h:jR B a [] r):r=[]:=by
 cases h with
 | nil=>rfl
 | cons w1 w2 w3 w4=>exact absurd rfl w4
section
variable (p F:List Rat) (l:List (List Rat)) (B:Nat) (hB1:1<=B) (hB:B<=100000) (hp0:p≠[]) (hp:p.length<=1000000) (hF:aD Tryz.prog 43 [PL p B] (.one (PL F B))) (hl:F.length<=1000) (h:jR B F (cD F) l) (hl2:l.length<=1000)
include hB1 hB hp0 hp hF hl h hl2
theorem aPj:aD Tryz.prog 13 [PL p B] (.one (kO (F::l) B)):=by
 have e11:Rat.divInt (-1) 1 = -1:=by decide
 have hpl:=List.length_pos_iff.2 hp0;have hdl:=vH F;refine aD.of (n:=35) Tryz.func13 rfl rfl rfl rfl rfl fun cx hfr=>?_;refine sr rfl ?_;refine xn ?_;refine RV.done ?_;refine CV.seq ?_;refine sr rfl ?_;refine xm ?_;refine p1 (bJ bB aZ) ?_;refine p1 (cR) ?_;refine RV.done ?_;refine CV.cond rfl (fun hc=>False.elim (by have:=of_decide_eq_true hc; omega)) (fun hc=>?_);refine CV.skip ?_;refine sr rfl ?_;refine xm ?_;refine p1 (bR hF rfl rfl bd Tryz.func43 rfl rfl (xa rfl) rfl hfr rfl) ?_;refine xn ?_;refine RV.done (sr rfl ?_);refine xm ?_;refine p2 (aEm (r:=200) (k:=none) (xs:=[.tmp 13]) (ss:=dX [F] B) jC tW rfl rfl rfl vR yD pQ rfl rfl bd (xa rfl) rfl rfl) ?_;refine xn ?_;refine RV.done (sr rfl ?_);refine xm ?_;refine xd rfl ((aGk F B (by omega) (by omega)).mono (fun _ _ _ _ h=>h) (dJ (aMv h))) Tryz.func44 (xa rfl) hfr ?_;refine xn ?_;refine RV.done ?_;refine CV.seq ?_;refine CV.block ?_;refine CV.loop (X:={z:List (List Rat) × List Rat × List Rat × List (List Rat) // jR B z.2.1 z.2.2.1 z.2.2.2/\z.1++z.2.2.2=F::l/\z.2.1.length<=1000/\z.2.2.1.length<=1000}) (fun z=>[(.s 4,.av (.one (.sl 200 (dX z.1.1 B).length))),(.b 200,.row 24 none (dX z.1.1 B)),(.s 3,.av (.one (PL z.1.2.1 B))),(.s 5,.av (.one (PL z.1.2.2.1 B)))]) (fun z=>z.1.2.2.2.length) ⟨([F],F,cD F,l),h,rfl,hl,by show (cD F).length<=1000; omega⟩ (bF.mk ⟨aC _,aC _,aC _,aC _,trivial⟩ rfl rfl) (fun z=>?_);obtain⟨⟨d,a,b,r⟩,hr,hd,ha,hb9⟩:=z;simp only at hr hd ha hb9 |-;refine CV.seq ?_;refine sr rfl ?_;refine xm ?_;refine p1 (bJ bB aZ) ?_;refine p1 (gY) ?_;refine RV.done ?_;refine CV.cond rfl (fun hc=>?_) (fun hc=>?_)
 ·have hlt:0<b.length:=(by have:=of_decide_eq_true hc; omega)
  obtain⟨U,R,r',rfl,q1,q2,q3,q4,q5,q6,q7,q8,q9⟩:=aTq hr hlt;have hdl2:d.length<=1001:=(by have:=congrArg List.length hd; simp only[List.length_append,List.length_cons] at this; omega)
  have hsl:=kS R (-1);refine CV.skip ?_;refine CV.block ?_;refine sr rfl ?_;refine xm ?_;refine xm ?_;refine p1 (fZ (k:=none) (xs:=[.tmp 21]) (ss:=dX [b] B) (G:=Dm.gen (bY none (dX [b] B))) (cM _ _) jC tW rfl rfl rfl vR pQ rfl rfl bd (xa rfl)) ?_;refine iN (aM.plain (mA (r:=200) (r':=201) (k:=none) (iZ (by decide) pQ) (by rw[iW,iW]; simp; omega) (by rw[iW,iW]; simp; omega) jC aDq rfl rfl rfl yD rfl rfl rfl bd rfl rfl rfl rfl rfl rfl rfl rfl) rfl) ?_;refine xn ?_;refine RV.done (sr rfl ?_);refine xm ?_;refine xm ?_;refine xc (aCw a b B hB1 hB ha hb9 q1 q3 q5 q6) Tryz.func45 (xb rfl rfl) hfr ?_;refine xm ?_;refine p1 (cK) ?_;refine p1 (cK) ?_;refine xn ?_;refine xn ?_;refine RV.done (sr rfl ?_);refine xm ?_;refine xn ?_;refine RV.done ?_;refine CV.region rfl (fun h=>nomatch h) ?_;refine xm ?_;refine xd rfl ((nR (-1) 1 (by decide) (by decide) (by decide) (by decide)).mono (fun _ _ _ _ h=>h) (uM e11)) Tryz.func32 (xb rfl rfl) hfr ?_;refine xd rfl ((aBx R (-1) B 6 (by omega) (by omega) (by omega)).mono (fun _ _ _ _ h=>h) (dJ (aMv q9))) Tryz.func46 (xb rfl rfl) hfr ?_;refine xn ?_;refine RV.done ?_;exact⟨⟨(d++[b],b,aN R (-1),r'),q9,by show d++[b]++r'=F::l; rw[List.append_assoc]; exact hd,hb9,by show (aN R (-1)).length<=1000; omega⟩,jX (fun i=>if i=200 then 201 else i) ⟨lJ rfl (by rw[sM,List.length_append]),eO sM.symm,fK,fK,trivial⟩ rfl rfl rfl rfl,by show r'.length<(b::r').length; rw[List.length_cons]; omega⟩
 ·refine CV.exit ?_;refine CV.seq ?_;have hb0:b=[]:=List.eq_nil_of_length_eq_zero (by have:=of_decide_eq_false hc; omega);subst hb0;have hr0:=aV3 hr;rw[hr0,List.append_nil] at hd;rw[hd];refine jU (r:=200) (t:=4) (G:=Dm.gen (bY none (dX (F::l) B))) (cx.bw hfr) rfl rfl rfl rfl rfl (cM _ _) (iF _ _) ?_;refine CV.region rfl (fun h=>nomatch h) ?_;refine xm ?_;refine xn ?_;refine RV.done ?_;refine CV.ret ?_;exact aR rfl (.inr rfl) rfl cC
end
theorem aP9 (l:List (List Rat)) (J K:Nat) (hl:l.length<=1000000) (hp:∀ p∈l,p.length<=1000000):aD Tryz.prog 14 [kO l J,kO l K] (.one (.v (.bool true))):=by
 refine aD.of (n:=27) Tryz.func14 rfl rfl rfl rfl rfl fun cx hfr=>?_;refine sr rfl ?_;refine xn ?_;refine RV.done ?_;refine CV.seq ?_;refine sr rfl ?_;refine xm ?_;refine p1 (bJ iW jC) ?_;refine xm ?_;refine p1 (bJ iW jC) ?_;refine p1 (rX) ?_;refine RV.done ?_;refine CV.cond rfl (fun hc=>False.elim (by simp at hc)) (fun hc=>?_);refine CV.skip ?_;refine CV.seq ?_;refine sr rfl ?_;refine xn ?_;refine RV.done ?_;refine CV.block ?_;refine CV.loop (X:={k:Nat // k<=l.length}) (fun k=>[(.s 5,.av (.one (.v (.int .i64 (k.1:Int))))),(.s 0,.av (.one (kO l J))),(.s 1,.av (.one (kO l K)))]) (fun k=>l.length-k.1) ⟨0,Nat.zero_le _⟩ (bF.mk ⟨aC _,aC _,aC _,trivial⟩ rfl rfl) (fun k=>?_);obtain⟨k,hk⟩:=k;simp only;refine CV.seq ?_;refine sr rfl ?_;refine xm ?_;refine xm ?_;refine p1 (bJ iW jC) ?_;refine p1 (dU) ?_;refine RV.done ?_;refine CV.cond rfl (fun hc=>?_) (fun hc=>?_)
 ·have hlt:k<l.length:=(by have:=of_decide_eq_true hc; omega)
  have hmem:l.getD k []∈l:=(by rw[List.getD_eq_getElem?_getD,List.getElem?_eq_getElem hlt]; exact List.getElem_mem _)
  refine CV.skip ?_;refine CV.seq ?_;refine CV.block ?_;refine CV.seq ?_;refine CV.region rfl (fun _=>by kernel_rfl) ?_;refine xm ?_;refine xm ?_;refine p1 (dB (k:=none) (i:=k) (aEk hlt) jC tJ) ?_;refine p1 (bO cQ) ?_;refine xm ?_;refine xm ?_;refine p1 (dB (k:=none) (i:=k) (aEk hlt) jC tJ) ?_;refine p1 (bO cQ) ?_;refine xc (aP8 (l.getD k []) (l.getD k []) J K (hp _ hmem) (hp _ hmem)) Tryz.func47 (xb rfl rfl) hfr ?_;refine p1 (lL) ?_;refine bV (by kernel_rfl) ?_;refine CV.cond rfl (fun hc=>False.elim (by simp at hc)) (fun hc=>?_);refine CV.skip ?_;refine CV.region rfl (fun h=>nomatch h) ?_;refine xm ?_;refine p1 (cJ (c:=((k+1:Nat):Int)) (by rw[bU (by omega) (by omega)]; omega) rfl rfl bd rfl rfl) ?_;refine xn ?_;refine RV.done ?_;exact⟨⟨k+1,hlt⟩,bF.mk ⟨aC _,aC _,aC _,trivial⟩ rfl rfl,by show l.length-(k+1)<l.length-k; omega⟩
 ·refine CV.exit ?_;refine sr rfl ?_;refine xn ?_;refine RV.done ?_;refine CV.ret ?_;exact aR rfl (.inr rfl) rfl cC
end Vc
end Go.Proofs.YtjmbkipbmbnhjaaGreat

namespace Go.Proofs.YtjmbkipbmbnhjaaGreat
open Go.RowKit
open Dg Zn
namespace Vc
def nE (x:Rat) (l:List (List Rat)):List Int:=(l.map fun p=>cN (ev p x)).filter fun s=>decide (s≠0)
theorem aTj (x:Rat) (p:List Rat) (l:List (List Rat)):nE x (p::l)=if cN (ev p x)=0 then nE x l else cN (ev p x)::nE x l:=by
 unfold nE;by_cases h:cN (ev p x)=0
 ·simp[h]
 ·simp[h]
def oE (L:List Int):Nat->Int
 | 0=>0
 | k+1=>if L.getD (k+1) 0≠L.getD k 0 then oE L k+1 else oE L k
def aA7 (x:Rat) (l:List (List Rat)):Int:=oE (nE x l) ((nE x l).length-1)
def xF:List Int->Int
 | a::b::l=>(if b≠a then 1 else 0)+xF (b::l)
 | _=>0
theorem aJb (a b:Int) (l:List Int):∀ k,oE (a::b::l) (k+1)=(if b≠a then 1 else 0)+oE (b::l) k
 | 0=>by
  show (if (a::b::l).getD 1 0≠(a::b::l).getD 0 0 then oE (a::b::l) 0+1 else oE (a::b::l) 0)=_;show (if b≠a then (0:Int)+1 else 0)=(if b≠a then 1 else 0)+0;split<;>rfl
 | k+1=>by
  have ih:=aJb a b l k;rw[oE,ih,oE];have e1:(a::b::l).getD (k+1+1) 0=(b::l).getD (k+1) 0:=rfl;have e2:(a::b::l).getD (k+1) 0=(b::l).getD k 0:=rfl;rw[e1,e2];split<;>omega
theorem aK3:∀ l:List Int,oE l (l.length-1)=xF l
 | []=>rfl
 | [a]=>rfl
 | a::b::l=>by
  have ih:=aK3 (b::l);rw[xF,<- ih];exact aJb a b l l.length
theorem aDz (x:Rat):∀ (l:List (List Rat)) (n b:Int),(-1<=b/\b<=1)->(jN x l (n,b)).1=n+xF (if b=0 then nE x l else b::nE x l)
 | [],n,b,_=>by
  rw[jN];split
  ·show n=n+0;omega
  ·show n=n+0;omega
 | p::l,n,b,hb=>by
  rw[jN,aTj];have hs:=aMt (ev p x);generalize cN (ev p x)=s at hs |-;simp only;by_cases h0:s=0
  ·subst h0;rw[if_neg (by omega),if_neg (by simp),if_pos rfl];exact aDz x l n b hb
  ·rw[if_pos h0,if_neg h0];have ih:=aDz x l (if s*b<0 then n+1 else n) s hs;rw[if_neg h0] at ih;rw[ih];by_cases hb0:b=0
   ·subst hb0;rw[if_pos rfl,if_neg (by omega)]
   ·rw[if_neg hb0,xF];rcases (by omega:s = -1\/s=1) with rfl | rfl<;>rcases (by omega:b = -1\/b=1) with rfl | rfl<;>simp<;>omega
theorem aKy (x:Rat) (l:List (List Rat)):bG x l=aA7 x l:=by
 unfold bG aA7;rw[aK3,aDz x l 0 0 (by decide),if_pos rfl,Int.zero_add]
end Vc
end Go.Proofs.YtjmbkipbmbnhjaaGreat

namespace Go.Proofs.YtjmbkipbmbnhjaaGreat
open Go.RowKit
open Go.Lib (hid)
open Dg Zn
namespace Vc
set_option maxRecDepth 100000
def nA (p:List Rat):Nat->Rat
 | 0=>0
 | k+1=>if iC (fP (p.getD k 0/aH p)) (nA p k)>0 then fP (p.getD k 0/aH p) else nA p k
def sH (p:List Rat):Rat:=nA p (p.length-1)+1
section
variable (p:List Rat) (B:Nat) (hB:B<=300000) (hp:p.length<=1000000) (hz:∀ k,k<p.length->aG [p.getD k 0/aH p] B=true)
include hB hp hz
theorem aJg:aD Tryz.prog 19 [PL p B] (.one (RT (sH p) (3*(B+6)+20))):=by
 have e11:Rat.divInt 1 1=1:=by decide
 refine aD.of (n:=28) Tryz.func19 rfl rfl rfl rfl rfl fun cx hfr=>?_;refine sr rfl ?_;refine p2 (aU (i:=0) bX) ?_;refine RV.done (sr rfl ?_);refine p2 (aU (i:=1) bX) ?_;refine RV.done ?_;refine CV.seq ?_;refine sr rfl ?_;refine xm ?_;refine xc (pO _ _ hp) Tryz.func51 (xa rfl) hfr ?_;refine xm ?_;refine RV.done ?_;refine CV.block ?_;refine CV.loop (X:={k:Nat // k<=p.length-1}) (fun k=>[(.s 8,.av (.one (.v (.int .i64 (k.1:Int))))),(.s 7,.av (.one (.v (.int .i64 ((p.length:Int)-1))))),(.s 0,.av (.one (PL p B))),(.s 3,.av (.one (.ptr 1 0))),(.b 1,.blk 31 [(some 4,RT (nA p k.1) B)]),(.s 2,.av (.one (.ptr 0 0))),(.b 0,.blk 31 [(some 4,.v dR)])]) (fun k=>p.length-1-k.1) ⟨0,Nat.zero_le _⟩ (bF.mk ⟨aC _,aC _,aC _,aC _,le_zero,aC _,aC _,trivial⟩ rfl rfl) (fun k=>?_);obtain⟨k,hk⟩:=k;simp only;refine sr rfl ?_;refine p1 (dU) ?_;refine RV.done ?_;refine CV.seq ?_;refine CV.cond rfl (fun hc=>?_) (fun hc=>?_)
 ·have hlt:k+1<p.length:=(by have:=of_decide_eq_true hc; omega)
  have hp0:p≠[]:=List.length_pos_iff.1 (by omega);refine CV.skip ?_;refine CV.seq ?_;refine CV.block ?_;refine sr rfl ?_;refine xm ?_;refine xn ?_;refine RV.done ?_;refine CV.seq ?_;refine CV.region rfl (fun _=>by kernel_rfl) ?_;refine xm ?_;refine xm ?_;refine p1 (dB (k:=some 4) (i:=k) (eA (by omega)) aZ cG rfl rfl bd rfl rfl (by decide)) ?_;refine p1 (bO aB) ?_;refine xm ?_;refine xc (aCs p B hp hp0) Tryz.func54 (xa rfl) hfr ?_;refine xd rfl ((oO (p.getD k 0) (aH p) B B (by omega) (by omega)).mono (fun _ _ _ _ h=>h) (dT (hz k (by omega)))) Tryz.func53 (xb rfl rfl) hfr ?_;refine xc (aBs _ _) Tryz.func52 (xa rfl) hfr ?_;refine p2 (aU (i:=2) bX) ?_;refine p1 (aQ (aB).2) ?_;refine bV (by kernel_rfl) ?_;refine sr rfl ?_;refine p1 (aJ aB) ?_;refine p1 (aJ aB) ?_;refine xd rfl (aBu (fP (p.getD k 0/aH p)) (nA p k) B B (by omega) (by omega)) Tryz.func55 (xb rfl rfl) hfr ?_;refine p1 (gY) ?_;refine RV.done ?_;refine CV.cond rfl (fun hx=>?_) (fun hx=>?_)
  ·refine CV.region rfl (fun h=>nomatch h) ?_;refine p1 (aJ aB) ?_;refine p1 (aQ (aB).2) ?_;refine RV.done ?_;refine CV.region rfl (fun h=>nomatch h) ?_;refine p1 (cJ (c:=((k+1:Nat):Int)) (by rw[bU (by omega) (by omega)]; omega) rfl rfl bd rfl rfl) ?_;refine xm ?_;refine RV.done ?_;have e:nA p (k+1)=fP (p.getD k 0/aH p):=(by rw[nA,if_pos (of_decide_eq_true hx)])
   exact⟨⟨k+1,by omega⟩,bF.mk ⟨aC _,aC _,aC _,aC _,zJ (by rw[e]; rfl),aC _,aC _,trivial⟩ rfl rfl,by show p.length-1-(k+1)<p.length-1-k; omega⟩
  ·refine CV.skip ?_;refine CV.region rfl (fun h=>nomatch h) ?_;refine p1 (cJ (c:=((k+1:Nat):Int)) (by rw[bU (by omega) (by omega)]; omega) rfl rfl bd rfl rfl) ?_;refine xm ?_;refine RV.done ?_;have e:nA p (k+1)=nA p k:=(by rw[nA,if_neg (of_decide_eq_false hx)])
   exact⟨⟨k+1,by omega⟩,bF.mk ⟨aC _,aC _,aC _,aC _,zJ (by rw[e]; rfl),aC _,aC _,trivial⟩ rfl rfl,by show p.length-1-(k+1)<p.length-1-k; omega⟩
 ·refine CV.exit ?_;refine CV.seq ?_;have hk2:k=p.length-1:=(by have:=of_decide_eq_false hc; omega)
  subst hk2;refine CV.region rfl (fun _=>by kernel_rfl) ?_;refine p1 (aJ aB) ?_;refine xd rfl ((oV 1 1 (by decide) (by decide) (by decide) (by decide)).mono (fun _ _ _ _ h=>h) (uM e11)) Tryz.func57 (xb rfl rfl) hfr ?_;refine xd rfl (tV (nA p (p.length-1)) 1 B 6 (by omega) (by omega)) Tryz.func56 (xb rfl rfl) hfr ?_;refine p1 (aQ (aB).2) ?_;refine bV (by kernel_rfl) ?_;refine CV.ret ?_;exact aR rfl (.inr rfl) ⟨_,_,_,_,_,rfl,rfl,rfl,aB⟩ cC
end
def aN4 (d:Int) (zs:List Int):List Rat:=aI (tab (fun i=>Rat.divInt (zs.getD i 0) d) zs.length)
theorem aWh (d:Int) (zs:List Int) (h1 : -9223372036854775808<=d) (h2:d<=9223372036854775807) (hz:∀ i,-9223372036854775808<=zs.getD i 0/\zs.getD i 0<=9223372036854775807) (hl:zs.length<=1000000):aD Tryz.prog 59 [.v (.int .i64 d),ZI .i64 zs] (.one (PL (aN4 d zs) 6)):=by
 refine aD.of (n:=24) Tryz.func59 rfl rfl rfl rfl rfl fun cx hfr=>?_;refine sr rfl ?_;refine xn ?_;refine RV.done (sr rfl ?_);refine xn ?_;refine RV.done ?_;refine CV.seq ?_;refine CV.seq ?_;refine oL 5 100 31 (some 4) rfl rfl rfl rfl ?_;refine CV.region rfl (fun h=>nomatch h) ?_;refine xn ?_;refine RV.done ?_;refine CV.block ?_;refine CV.loop (X:={k:Nat // k<=zs.length}) (fun k=>[(.s 6,.av (.one (.v (.int .i64 (k.1:Int))))),(.s 5,.av (.one (.sl 100 k.1))),(.b 100,.row 31 (some 4) (iB (fun i=>Rat.divInt (zs.getD i 0) d) 6 k.1)),(.s 1,.av (.one (ZI .i64 zs))),(.s 0,.av (.one (.v (.int .i64 d))))]) (fun k=>zs.length-k.1) ⟨0,Nat.zero_le _⟩ (bF.mk ⟨aC _,aC _,eO rfl,aC _,aC _,trivial⟩ rfl rfl) (fun k=>?_);obtain⟨k,hk⟩:=k;simp only;refine CV.seq ?_;refine sr rfl ?_;refine xm ?_;refine xm ?_;refine p1 (bJ (qW _) lK) ?_;refine p1 (dU) ?_;refine RV.done ?_;refine CV.cond rfl (fun hc=>?_) (fun hc=>?_)
 ·have hlt:k<zs.length:=(by have:=of_decide_eq_true hc; omega)
  refine CV.skip ?_;refine CV.seq ?_;refine CV.block ?_;refine CV.region rfl (fun h=>nomatch h) ?_;refine xm ?_;refine xm ?_;refine xm ?_;refine p1 (dB (k:=none) (i:=k) (uC hlt) lK rW) ?_;refine p1 (bO iG) ?_;refine xm ?_;refine xc (nR (zs.getD k 0) d (hz k).1 (hz k).2 h1 h2) Tryz.func32 (xb rfl rfl) hfr ?_;refine p1 (fZ (G:=Dm.gen (bY (some 4) [_])) (cM _ _) dC mU rfl rfl rfl (by intro s hs; obtain rfl:=List.mem_singleton.1 hs; rfl) rfl rfl rfl bd (xa rfl)) ?_;refine iN (aM.plain (mA (r:=100) (r':=101) (iZ (by decide) rfl) (by rw[fU]; show (k+1)*64<=_; omega) (by rw[fU]; show k+1<=_; omega) dC iO rfl rfl rfl (by intro x hx; obtain rfl:=List.mem_singleton.1 hx; rfl) fU.symm rfl rfl bd rfl rfl rfl rfl rfl rfl rfl rfl) rfl) ?_;refine xn ?_;refine RV.done ?_;refine CV.region rfl (fun h=>nomatch h) ?_;refine xm ?_;refine p1 (cJ (c:=((k+1:Nat):Int)) (by rw[bU (by omega) (by omega)]; omega) rfl rfl bd rfl rfl) ?_;refine xn ?_;refine RV.done ?_;exact⟨⟨k+1,hlt⟩,jX (fun i=>if i=100 then 101 else i) ⟨fK,lJ rfl rfl,eO sX,fK,fK,trivial⟩ rfl rfl rfl rfl,by show zs.length-(k+1)<zs.length-k; omega⟩
 ·refine CV.exit ?_;refine CV.seq ?_;have hk1:k=zs.length:=(by have:=of_decide_eq_false hc; omega)
  subst hk1;rw[pR];refine jU (r:=100) (t:=5) (G:=Dm.gen (bY (some 4) (bN (tab (fun i=>Rat.divInt (zs.getD i 0) d) zs.length) 6))) (cx.bw hfr) rfl rfl (by rw[bB,eX]) rfl rfl (cM _ _) (iF _ _) ?_;refine CV.region rfl (fun h=>nomatch h) ?_;refine xm ?_;refine xd rfl (lD _ _ (by rw[eX]; exact hl)) Tryz.func12 (xa rfl) hfr ?_;refine xn ?_;refine RV.done ?_;refine CV.ret ?_;exact aR rfl (.inr rfl) rfl cC
theorem mQ (z:Int) (h1 : -9223372036854775808<=z) (h2:z<=9223372036854775807):aD Tryz.prog 30 [(.v (.int .i64 z):SA Dm)] (.one (RT (Rat.divInt z 1) 6)):=by
 refine aD.of (n:=5) Tryz.func30 rfl rfl rfl rfl rfl fun cx hfr=>?_;refine sr rfl ?_;refine p2 (aU (i:=0) bX) ?_;refine RV.done (sr rfl ?_);refine xm ?_;refine xd rfl (nR z 1 h1 h2 (by decide) (by decide)) Tryz.func32 (xb rfl rfl) hfr ?_;refine p1 (aQ (aB).2) ?_;refine RV.done ?_;refine CV.ret ?_;exact aR rfl (.inr rfl) ⟨_,_,_,_,_,rfl,rfl,rfl,aB⟩ cC
def prG (a b:Rat) (j k:Nat):qQ where
 is:=fun w v=>∃ (c e:List Value),v=.agg (c++e).toArray/\Dm.at (.rt a.num (qd a) j) w (.agg c.toArray)/\Dm.at (.rt b.num (qd b) k) w (.agg e.toArray)
 shape:=some 8
 plain:=true
 ok:=fun w v ⟨c,e,h,hc,he⟩=>by
  subst h;obtain⟨a,n,c',a',n',c'',rfl,_⟩:=gV hc;obtain⟨b,m,d',b',m',d'',rfl,_⟩:=gV he;exact⟨_,rfl,rfl,by simp[Value.oneCell']⟩
 pl:=fun _ w v ⟨c,e,h,hc,he⟩=>by
  subst h;obtain⟨a,n,c',a',n',c'',rfl,_⟩:=gV hc;obtain⟨b,m,d',b',m',d'',rfl,_⟩:=gV he;simp[Value.cells,cS]
abbrev PR (a b:Rat) (j k:Nat):SA Dm:=.d (Dm.gen (prG a b j k))
theorem aLa:(Tryz.prog.info? 51).map (·.zero)=some (some (.agg #[.bool false,.slice none 0 0,.bool false,.slice none 0 0,.bool false,.slice none 0 0,.bool false,.slice none 0 0])):=by kernel_rfl
theorem aAx:dF Tryz.prog 51 (some 8):=dF.row (by kernel_rfl) (by kernel_rfl)
theorem aU2 (parts:List (Nat × Value)):Tryz.prog.built 51 parts=Instr.fill (fun i=>some (i*4,4)) #[.bool false,.slice none 0 0,.bool false,.slice none 0 0,.bool false,.slice none 0 0,.bool false,.slice none 0 0] parts:=by kernel_rfl
section
variable {P:Program} {cx:Cx Dm} {n:Nat} {σ:St Dm} {o:Oper} {d t:Nat}
theorem aHf {x y:Operand} {a b:Rat} {j k:Nat} (ho:o.op=.build 51 #[(0,x),(1,y)]) (hd:o.dst=some d) (hn:d<n) (hx:opd σ x=.av (.one (RT a j))) (hy:opd σ y=.av (.one (RT b k))):aM Tryz.prog cx n σ o (bE x++bE y) [(.s d,.av (.one (PR a b j k)))]:=by
 refine eZ hd hn rfl fun σ' ρ a' w h hk=>?_;have h1:=h.opd ((cL fun q hq=>hk q (by simp[hq])).trans hx);have h2:=h.opd ((cL fun q hq=>hk q (by simp[hq])).trans hy);have cells:∀ {z:Operand} {q:Rat} {i:Nat},(RT q i).is (aT cx σ' ρ) ρ w (a'.eval z)->∃ cs:List Value,a'.eval z=.agg cs.toArray:=fun h=>by
  obtain⟨s,t',e,_⟩:=h w (Agree.refl _ _);exact⟨_,e⟩
 obtain⟨cs,hv⟩:=cells h1;obtain⟨es,hv'⟩:=cells h2;have h1':∀ w',Agree (aT cx σ' ρ) w w'->Dm.at (.rt a.num (qd a) j) w' (.agg cs.toArray):=fun w' hag=>by rw[<- hv]; exact h1 w' hag
 have h2':∀ w',Agree (aT cx σ' ρ) w w'->Dm.at (.rt b.num (qd b) k) w' (.agg es.toArray):=fun w' hag=>by rw[<- hv']; exact h2 w' hag
 obtain⟨p1,p2,p3,p4,p5,p6,rfl,_⟩:=gV (h1' w (Agree.refl _ _));obtain⟨q1,q2,q3,q4,q5,q6,rfl,_⟩:=gV (h2' w (Agree.refl _ _));refine⟨.agg #[.bool (decide (a.num<0)),.slice p1 p2 p3,.bool (decide (qd a<0)),.slice p4 p5 p6,.bool (decide (b.num<0)),.slice q1 q2 q3,.bool (decide (qd b<0)),.slice q4 q5 q6],?_,?_⟩
 ·have hb:Tryz.prog.built 51 #[(0,a'.eval x),(1,a'.eval y)].toList=some #[.bool (decide (a.num<0)),.slice p1 p2 p3,.bool (decide (qd a<0)),.slice p4 p5 p6,.bool (decide (b.num<0)),.slice q1 q2 q3,.bool (decide (qd b<0)),.slice q4 q5 q6]:=by
   rw[hv,hv',aU2]
   kernel_rfl
  have hb2:=run_build w 51 #[(0,a'.eval x),(1,a'.eval y)] _ hb;simp only[execOp,ho,Sem.run_bind];rw[show (#[(0,x),(1,y)]:Array (Nat × Operand)).map (fun p=>(p.1,a'.eval p.2))=#[(0,a'.eval x),(1,a'.eval y)] by simp,hb2];rfl
 ·intro w' hag;exact⟨_,_,rfl,h1' w' hag,h2' w' hag⟩
end
section
variable (p:List Rat) (lo hi:Rat) (K Kx:Nat) (hp:p.length<=1000000) (hl:fS [p] lo K Kx) (hh:fS [p] hi K Kx)
include hp hl hh
end
def nC (lo hi:Rat):Rat:=(lo+hi)*Rat.divInt 1 2
section
variable (p:List Rat) (L:List (List Rat × Rat)) (lo hi:Rat) (B K:Nat) (hB:B<=300000) (hp:p.length<=1000000) (h:lS B p=some L) (hL:L.length<=1000000) (hm:aG [nC lo hi] K=true) (p1:fS [p] lo B K) (p2:fS [p] hi B K) (p3:fS [p] (nC lo hi) B K) (h1:fS (L.map (·.1)) lo B K) (h3:fS (L.map (·.1)) (nC lo hi) B K)
include hB hp h hL hm p1 p2 p3 h1 h3
end
theorem qY (p:List Rat) (a:Rat):aI (cY p a)=cY p a:=by
 unfold cY;cases p.length with
 | zero=>rfl
 | succ n=>rw[oM,pH]; exact cF _
theorem aB6 (p:List Rat) (a:Rat):(cY p a).length<=p.length:=by
 have:=aB7 p a (eL id p.length);rw[aEw] at this;exact this
section
variable {p:List Rat} {c n:Nat}
theorem aRb {a:Rat} {K Kx:Nat} (J:Nat) (hpz:aG p K=true) (hK:1<=K) (hKx1:1<=Kx) (hxz:aG [a] Kx=true) (hn:p.length<=n) (hJ:fI K Kx n<=J):aG (cY p a) J=true:=by
 have h:=aH3 hK hKx1 hpz hxz (eL id p.length);rw[aEw] at h;exact nQ (Nat.le_trans (aD2 hn) hJ) h
theorem aMk {a:Rat} {K Kx:Nat} (J:Nat) (hpz:aG p K=true) (hK:1<=K) (hK2:K<=100000) (hKx1:1<=Kx) (hKx:Kx<=1000) (hxz:aG [a] Kx=true) (hl:p.length<=n) (hn:n<=1000) (hJ:fI K Kx n<=J) (hJ2:J<=1000000):aD Tryz.prog 35 [PL p K,RT a Kx] (.one (PL (cY p a) J)):=by
 have h2:=aD2 (K:=K) (Kx:=Kx) hl;exact(aQz p a K Kx (by omega) (by omega) (by omega) hK hKx1 hpz hxz (by omega)).mono (fun _ _ _ _ h=>h) (dJ (aRb J hpz hK hKx1 hxz hl hJ))
end
section
variable (zs1 zs2:List Int) (hz1:∀ z∈zs1,-9223372036854775808<=z/\z<=9223372036854775807) (hz2:∀ z∈zs2,-9223372036854775808<=z/\z<=9223372036854775807) (c d:Int) (hc1 : -9223372036854775808<=c) (hc2:c<=9223372036854775807) (hd1 : -9223372036854775808<=d) (hd2:d<=9223372036854775807)
include hz1 hz2 hc1 hc2 hd1 hd2
end
/-! Lists of pairs of polynomials. -/
theorem aJl:dF Tryz.prog 34 none:=dF.one (by kernel_rfl) (by kernel_rfl)
section
variable (zs1 zs2:List Int) (hz1:∀ z∈zs1,-9223372036854775808<=z/\z<=9223372036854775807) (hz2:∀ z∈zs2,-9223372036854775808<=z/\z<=9223372036854775807) (c:Int) (hc1 : -9223372036854775808<=c) (hc2:c<=9223372036854775807)
include hz1 hz2 hc1 hc2
end
theorem aT5 {u v:List Rat} {c d n m:Nat} (hu:Pk u c n) (hv:Pk v d m) (hn:n<=100) (hc:c+101*(d+1)+d<=2900000):∃ U R,dE 100000 u v=some (U,R)/\aI U=U/\U.length<=101/\R.length<=100/\(v≠[]->aI R=R/\R.length<v.length/\(∀ x,ev u x=ev U x*ev v x+ev R x)/\Cb U (c+101*(d+1)+d)):=by
 have hl:=hu.len;by_cases h0:v=[]
 ·subst h0;exact⟨[],[],by rw[dE,if_pos rfl],rfl,Nat.zero_le _,Nat.zero_le _,fun h=>absurd rfl h⟩
 ·have he:jM u v c d<=c+101*(d+1)+d:=by
   unfold jM;have:=Nat.mul_le_mul_right (d+1) (show u.length+1-v.length<=101 by omega);omega
  obtain⟨U,R,h1,h2,h3,h4,h5,h6,h7,h8⟩:=vU (B:=100000) (by decide) hu.tr hv.tr h0 hu.cb hv.cb (by omega);refine⟨U,R,h1,h2,by omega,?_,fun _=>⟨h3,h4,h6,h7.mono he⟩⟩;by_cases hr:R=[]
  ·rw[hr]; exact Nat.zero_le _
  ·rcases Nat.lt_or_ge u.length v.length with hlt | hge
   ·have hU:U=[]:=List.eq_nil_of_length_eq_zero (by omega);have hR:u=R:=jF hu.tr h3 fun x=>by rw[h6,hU,ev,Rat.zero_mul,Rat.zero_add]
    rw[<- hR];omega
   ·omega
theorem aCd {g:List Rat} (tg:aI g=g) (hl:aH g=1):aX g=g:=jF (cF _) tg fun x=>by
 rw[aX,cB,hl,show (1:Rat)/1=1 by decide +kernel,Rat.mul_one]
theorem aXm {u g:List Rat} {c n:Nat} (hu:Pk u c n) (hu0:u≠[]) (hn:n<=2^c) (tg:aI g=g) (hl:aH g=1) (h:Dv g u):Pk g (sF c n) n:=by
 have h1:=aKp hu.tr hu0 hu.cb hu.len hn tg h;rw[aCd tg hl] at h1;exact⟨h1,tg,Nat.le_trans (sB tg hu.tr hu0 h).2.1 hu.len⟩
theorem aHk {u:List Rat} {c n:Nat} (hu:Pk u c n) (hn:n<=11) (hc:c<=70) (hc2:4<=c):∃ G U R,nD 100000 u (cD u)=some G/\oZ 100000 u (cD u)=some G/\aI G=G/\G.length<=11/\aG G 100000=true/\dE 100000 u G=some (U,R)/\aI U=U/\U.length<=101/\aG (aX U) 100000=true/\(u≠[]->dD u (cD u) G/\G≠[]/\aH G=1/\aI R=R/\R.length<G.length/\∀ x,ev u x=ev U x*ev G x+ev R x)/\(u=[]->U=[]):=by
 by_cases h0:u=[]
 ·subst h0;exact⟨[],[],[],aKh (by decide),rfl,rfl,Nat.zero_le _,rfl,by rw[dE,if_pos rfl],rfl,Nat.zero_le _,rfl,fun h=>absurd rfl h,fun _=>rfl⟩
 ·have hd:=hu.derive 4 (by omega);have hpos:=List.length_pos_iff.2 h0;have hQ:sG u (cD u) c (c+4)<=608:=by
   unfold sG;have:=vH u;rw[if_pos (by omega)];omega
  have h1:=hu.len;have h2:=hd.len;obtain⟨G,e,g1,g2,g3,g4,_,_,_,_⟩:=aUh (B:=100000) (M:=11) (Q:=608) (by decide) hu.tr hd.tr (by omega) (by omega) hu.cb hd.cb (by omega) (by omega) hQ (by decide);obtain⟨q1,q2,q3⟩:=g4 (.inl h0);have h16:2^4<=2^c:=eS hc2;have hG:=aXm hu h0 (by omega) g3 q2 q3.1;have hk:sF c n<=1687:=by
   unfold sF;have:=Nat.mul_le_mul (show n<=11 from hn) (show c+3<=73 by omega);have:=Nat.mul_le_mul (show n<=11 from hn) (show c+4<=74 by omega);omega
  have hG2:=hG.mono hk (Nat.le_refl _);obtain⟨U,R,u1,u2,u3,u4,u5⟩:=aT5 hu hG2 (by omega) (by omega);obtain⟨v1,v2,v3,v4⟩:=u5 q1;obtain⟨_,_,m3,_⟩:=vT u2 v4;have hGl:=hG2.len;exact⟨G,U,R,g1,g2,g3,by omega,hG2.sz (by decide) (by decide),u1,u2,u3,m3.sz (by decide) (by omega),fun _=>⟨q3,q1,q2,v1,v2,v3⟩,fun h=>absurd h h0⟩
theorem aKi {u G U R:List Rat} (h0:aG (cD u) 100000=true) (h1:nD 100000 u (cD u)=some G) (h2:dE 100000 u G=some (U,R)) (hG:G.length<=11) (hU:U.length<=101) (hm:aG (aX U) 100000=true):kG 100000 u=some (aX U):=by
 unfold kG;rw[if_pos h0,h1];show (dE 100000 u G).bind _=_;rw[h2];show (if _ then some _ else none)=_;rw[decide_eq_true (show G.length<=1000000 by omega),decide_eq_true (show U.length<=1000000 by omega),hm];rfl
section
variable (zs1 zs2:List Int) (hz1:∀ z∈zs1,-9223372036854775808<=z/\z<=9223372036854775807) (hz2:∀ z∈zs2,-9223372036854775808<=z/\z<=9223372036854775807)
include hz1 hz2
end
end Vc
end Go.Proofs.YtjmbkipbmbnhjaaGreat

namespace Go.Proofs.YtjmbkipbmbnhjaaGreat
open Go.RowKit
open Dg Zn
namespace Vc
section
variable {u v G U R F:List Rat}
variable {c d n m:Nat}
end
end Vc
end Go.Proofs.YtjmbkipbmbnhjaaGreat

namespace Go.Proofs.YtjmbkipbmbnhjaaGreat
open Go.RowKit
open Go.Lib (hid)
open Dg Zn
namespace Vc
theorem aWp {c n:Nat} (hc:c<=70) (hn:n<=7):sF c n<=1099:=by
 unfold sF;have h1:n*(c+3)<=7*73:=Nat.mul_le_mul hn (by omega);have h2:n*(c+4)<=7*74:=Nat.mul_le_mul hn (by omega);omega
theorem aX2 {M X B:Nat} {z:List Rat × Rat} (h:uY M X z) (hB:1<=B) (hX:6*X<=29*B):aG (aN z.1 z.2) B=true:=h.cb.sz hB (by omega)
theorem aSw {p:List Rat} {c n:Nat} (hp:Pk p c n) (hn:n<=7) (hc:c<=70) (hc2:4<=c) (h0:p≠[]) :
  ∃ F L l,kG 100000 p=some F/\aI F=F/\F≠[]/\aH F=1/\F.length<=7/\Cb F 1099/\lS 100000 p=some L/\L.length<=7/\(∀ z∈L,uY 7 378000 z)/\L.map (fun z=>aN z.1 z.2)=F::l/\jR 100000 F (cD F) l /\
   aD Tryz.prog 15 [PL p 100000] (.one (kO (F::l) 100000))/\aD Tryz.prog 13 [PL p 100000] (.one (kO (F::l) 100000)):=by
 obtain⟨G,U,R,f1,f2,f3,f4,f5,f6,f7,f8,f9,f10,f11⟩:=aHk hp (by omega) hc hc2;have hdz:aG (cD p) 100000=true:=(hp.derive 4 (by omega)).sz (by decide) (by omega);have hF:=aKi hdz f1 f6 f4 f8 f9;obtain⟨hG,G0,gl,tR,hRl,hdiv⟩:=f10 h0;have hr:=aHl f3 tR hG.1 hdiv hRl;have hpU:∀ x,ev p x=ev U x*ev G x:=fun x=>by rw[hdiv,hr,ev,Rat.add_zero]
 have hU0:U≠[]:=by
  rintro rfl;exact zO hp.tr h0 (uI fun x=>by rw[hpU,ev,Rat.zero_mul])
 obtain⟨m1,m2,m3,_⟩:=pK f7 hU0;have hF0:aX U≠[]:=fun e=>by rw[e,List.length_nil] at m2; exact hU0 (List.eq_nil_of_length_eq_zero m2.symm)
 have hdv:Dv U p:=⟨G,fun x=>by rw[hpU,Rat.mul_comm]⟩
 have hlen:=(sB f7 hp.tr h0 hdv).2.1;have hpl:=hp.len;have h7:(7:Nat)<=2^c:=Nat.le_trans (by decide:7<=2^4) (eS hc2);have hcF:Cb (aX U) 1099:=(aKp hp.tr h0 hp.cb hpl (by omega) f7 hdv).mono (aWp hc hn);obtain⟨L,e1,e2,e3,l,e4,e5⟩:=aUs (B:=100000) (M:=7) (c:=1099) (X:=378000) (by decide) hF m1 hF0 (by omega) (by decide) hcF (by decide) (by decide) (by decide);have hll:l.length<=1000:=by
  have:=congrArg List.length e4;simp only[List.length_map,List.length_cons] at this;omega
 refine⟨aX U,L,l,hF,m1,hF0,m3,by omega,hcF,e1,e2,e3,e4,e5,?_,?_⟩
 ·have:=aJf p L 100000 (by decide) (by omega) e1 (by omega) (fun z hz=>by have:=(e3 z hz).len; omega) fun z hz=>aX2 (e3 z hz) (by decide) (by decide);rwa[e4] at this
 ·exact aPj p (aX U) l 100000 (by decide) (by decide) h0 (by omega) (aQa p G U R 100000 (by decide) (by decide) (by omega) hp.tr hdz f2 f3 (by omega) f5 f6 f7 (by omega) f9) (by omega) e5 hll
def gO:List Rat:=[2,-3,0,1]
def lR:List (List Rat × Rat):=[([-2,1,1],1),([1,2],1),([1],9/4)]
theorem aFi:lS 100000 gO=some lR:=by decide +kernel
theorem aUn:sH gO=4:=by decide +kernel
theorem aYo:∀ z∈lR,aG (aN z.1 z.2) 100000=true:=by decide +kernel
theorem aFh {x:Rat} (hx:aG [x] 6=true):fS (lR.map (·.1)) x 100000 6:=by
 refine⟨by decide,by decide,by decide,by decide,hx,fun p hp=>?_⟩;have h:∀ p∈lR.map (·.1),(decide (p.length<=1000000)&&(aG p 100000&&decide (iD 100000 6 p.length<=1000000)))=true:=by decide +kernel
 have:=h p hp;rw[Bool.and_eq_true,Bool.and_eq_true,decide_eq_true_eq,decide_eq_true_eq] at this;exact⟨this.1,this.2.1,this.2.2⟩
theorem aDu (a b:Int) (n:Int) (ha:aG [Rat.divInt a 1] 6=true) (hb:aG [Rat.divInt b 1] 6=true) (hn:gL (lR.map (·.1)) (Rat.divInt a 1) (Rat.divInt b 1)=n):aD Tryz.prog 25 [PL gO 100000,RT (Rat.divInt a 1) 6,RT (Rat.divInt b 1) 6] (.one (.v (.int .i64 n))):=by
 rw[<- hn];exact yS gO lR (Rat.divInt a 1) (Rat.divInt b 1) 100000 6 (by decide) (by decide) aFi (by decide) (aFh ha) (aFh hb)
theorem aSi:aD Tryz.prog 25 [PL gO 100000,RT (Rat.divInt (-3) 1) 6,RT (Rat.divInt 3 1) 6] (.one (.v (.int .i64 2))):=aDu (-3) 3 2 (by decide +kernel) (by decide +kernel) (by decide +kernel)
theorem aSh:aD Tryz.prog 25 [PL gO 100000,RT (Rat.divInt (-2) 1) 6,RT (Rat.divInt 1 1) 6] (.one (.v (.int .i64 1))):=aDu (-2) 1 1 (by decide +kernel) (by decide +kernel) (by decide +kernel)
theorem aSg:aD Tryz.prog 25 [PL gO 100000,RT (Rat.divInt 1 1) 6,RT (Rat.divInt 5 1) 6] (.one (.v (.int .i64 0))):=aDu 1 5 0 (by decide +kernel) (by decide +kernel) (by decide +kernel)
theorem aUm:aD Tryz.prog 15 [PL gO 100000] (.one (kO [[-2,1,1],[1,2],[9/4]] 100000)):=by
 have h:=aJf gO lR 100000 (by decide) (by decide) aFi (by decide) (fun z hz=>(show ∀ z∈lR,z.1.length<=1000000 by decide +kernel) z hz) aYo;have e:lR.map (fun e=>aN e.1 e.2)=[[-2,1,1],[1,2],[9/4]]:=by decide +kernel
 rwa[e] at h
set_option maxRecDepth 100000
def oW (p q:List Rat) (l:List (List Rat)) (lo hi:Rat):Bool :=
 if p.length=0 then true else if iC lo hi>0 then true else if iC lo hi=0 then decide (cN (ev p lo) >= 0)
 else if (if cN (ev q hi)=0 then gL l lo hi-1 else gL l lo hi)=0 then decide (cN (ev q (nC lo hi))>0) else false
section
variable (p q:List Rat) (L:List (List Rat × Rat)) (lo hi:Rat) (B K:Nat) (hB:B<=300000) (hp:p.length<=1000000) (hq:q.length<=1000000) (hodd:aD Tryz.prog 88 [PL p B] (.one (PL q B))) (h:lS B q=some L) (hL:L.length<=1000000) (hm:aG [nC lo hi] K=true) (p1:fS [p] lo B K) (q2:fS [q] hi B K) (q3:fS [q] (nC lo hi) B K) (l1:fS (L.map (·.1)) lo B K) (l2:fS (L.map (·.1)) hi B K)
include hB hp hq hodd h hL hm p1 q2 q3 l1 l2
theorem aS0:aD Tryz.prog 39 [PL p B,RT lo K,RT hi K] (.one (.v (.bool (oW p q (L.map (·.1)) lo hi)))):=by
 obtain⟨hBm,hK,hB1,hK1,sl,pall⟩:=p1;obtain⟨_,_,_,_,sh,qall⟩:=q2;obtain⟨_,_,_,_,sm,_⟩:=q3;obtain⟨_,pz,pb⟩:=pall p List.mem_cons_self;obtain⟨_,qz,qb⟩:=qall q List.mem_cons_self;have b1:=mT lo (L.map (·.1));have b2:=mT hi (L.map (·.1));have bl:(L.map (·.1)).length=L.length:=List.length_map _;have bc : -1000000<=gL (L.map (·.1)) lo hi/\gL (L.map (·.1)) lo hi<=1000000:=by unfold gL; split<;>omega
 refine aD.of (n:=50) Tryz.func39 rfl rfl rfl rfl rfl fun cx hfr=>?_;refine sr rfl ?_;refine p2 (cA (i:=0)) ?_;refine p2 (cA (i:=1)) ?_;refine xn ?_;refine RV.done (sr rfl ?_);refine p1 (aJ aB) ?_;refine p1 (aJ aB) ?_;refine xd rfl (aBu lo hi K K (by omega) (by omega)) Tryz.func55 (xb rfl rfl) hfr ?_;refine xn ?_;refine RV.done ?_;refine CV.seq ?_;refine CV.block ?_;refine sr rfl ?_;refine xm ?_;refine p1 (bJ bB aZ) ?_;refine p1 (cR) ?_;refine xm ?_;refine RV.bool (fun c1=>?_) (fun c1=>?_)
 ·refine xk ?_;refine xk ?_;refine p1 (cZ) ?_;refine xn ?_;refine RV.done ?_;refine CV.yes rfl ?_;refine sr rfl ?_;refine xn ?_;refine RV.done ?_;refine CV.ret ?_;have e1:p.length=0:=(by simpa using c1)
  exact aR rfl (.inr rfl) rfl (gA (by rw[oW,if_pos e1]))
 ·refine y1 (cE (.inl rfl)) ?_;refine y1 (gY) ?_;refine p1 (eI) ?_;refine xn ?_;refine RV.done ?_;refine CV.cond rfl (fun c2=>?_) (fun c2=>?_)
  ·refine sr rfl ?_;refine xn ?_;refine RV.done ?_;refine CV.ret ?_;have e1:¬ p.length=0:=(by simpa using c1)
   have e2:=of_decide_eq_true c2;exact aR rfl (.inr rfl) rfl (gA (by rw[oW,if_neg e1,if_pos e2]))
  ·refine sr rfl ?_;refine xm ?_;refine p1 (cR) ?_;refine xn ?_;refine RV.done ?_;refine CV.cond rfl (fun c3=>?_) (fun c3=>?_)
   ·refine sr rfl ?_;refine xm ?_;refine p1 (aJ aB) ?_;refine xc (vZ p lo B K hp hBm hK hB1 hK1 pz sl pb) Tryz.func49 (xb rfl rfl) hfr ?_;refine p1 (rZ) ?_;refine xn ?_;refine RV.done ?_;refine CV.ret ?_;have e1:¬ p.length=0:=(by simpa using c1)
    have e2:=of_decide_eq_false c2;have e3:iC lo hi=0:=(by simpa using c3)
    exact aR rfl (.inr rfl) rfl (gA (by rw[oW,if_neg e1,if_neg e2,if_pos e3]))
   ·refine CV.skip ?_;refine sr rfl ?_;refine xm ?_;refine p1 (bR hodd rfl rfl bd Tryz.func88 rfl rfl (xa rfl) rfl hfr rfl) ?_;refine xn ?_;refine RV.done (sr rfl ?_);refine xm ?_;refine p1 (aJ aB) ?_;refine p1 (aJ aB) ?_;refine xc (yS q L lo hi B K hB hq h hL l1 l2) Tryz.func25 (.cons rfl cI.any (xb rfl rfl)) hfr ?_;refine xn ?_;refine RV.done ?_;refine CV.seq ?_;refine sr rfl ?_;refine xm ?_;refine p1 (aJ aB) ?_;refine xc (vZ q hi B K hq hBm hK hB1 hK1 qz sh qb) Tryz.func49 (xb rfl rfl) hfr ?_;refine p1 (cR) ?_;refine RV.done ?_;refine CV.cond rfl (fun c4=>?_) (fun c4=>?_)
    ·refine CV.region rfl (fun h=>nomatch h) ?_;refine xm ?_;refine p1 (eB (c:=gL (L.map (·.1)) lo hi-1) (bU (by omega) (by omega)) rfl rfl bd rfl rfl) ?_;refine xn ?_;refine RV.done (sr rfl ?_);refine xm ?_;refine p1 (cR) ?_;refine xm ?_;refine RV.bool (fun c5=>?_) (fun c5=>?_)
     ·refine y1 (cE (.inl rfl)) ?_;refine y1 (aJ aB) ?_;refine y1 (aJ aB) ?_;refine y1 (bR ((aCf lo hi K K (by omega) (by omega)).mono (fun _ _ _ _ h=>h) (dT hm)) rfl rfl bd Tryz.func69 rfl rfl (xb rfl rfl) rfl hfr rfl) ?_;refine y1 (bR (vZ q (nC lo hi) B K hq hBm hK hB1 hK1 qz sm qb) rfl rfl bd Tryz.func49 rfl rfl (xb rfl rfl) rfl hfr rfl) ?_;refine y1 (gY) ?_;refine p1 (cZ) ?_;refine xn ?_;refine RV.done ?_;refine CV.ret ?_;have e1:¬ p.length=0:=(by simpa using c1)
      have e2:=of_decide_eq_false c2;have e3:¬ iC lo hi=0:=(by simpa using c3)
      have e4:cN (ev q hi)=0:=(by simpa using c4)
      have e5:gL (L.map (·.1)) lo hi-1=0:=(by simpa using c5)
      exact aR rfl (.inr rfl) rfl (gA (by rw[oW,if_neg e1,if_neg e2,if_neg e3,if_pos e4,if_pos e5]))
     ·refine xk ?_;refine xk ?_;refine xk ?_;refine xk ?_;refine xk ?_;refine xk ?_;refine p1 (eI) ?_;refine xn ?_;refine RV.done ?_;refine CV.ret ?_;have e1:¬ p.length=0:=(by simpa using c1)
      have e2:=of_decide_eq_false c2;have e3:¬ iC lo hi=0:=(by simpa using c3)
      have e4:cN (ev q hi)=0:=(by simpa using c4)
      have e5:¬ gL (L.map (·.1)) lo hi-1=0:=(by simpa using c5)
      exact aR rfl (.inr rfl) rfl (gA (by rw[oW,if_neg e1,if_neg e2,if_neg e3,if_pos e4,if_neg e5]))
    ·refine CV.skip ?_;refine sr rfl ?_;refine xm ?_;refine p1 (cR) ?_;refine xm ?_;refine RV.bool (fun c5=>?_) (fun c5=>?_)
     ·refine y1 (cE (.inl rfl)) ?_;refine y1 (aJ aB) ?_;refine y1 (aJ aB) ?_;refine y1 (bR ((aCf lo hi K K (by omega) (by omega)).mono (fun _ _ _ _ h=>h) (dT hm)) rfl rfl bd Tryz.func69 rfl rfl (xb rfl rfl) rfl hfr rfl) ?_;refine y1 (bR (vZ q (nC lo hi) B K hq hBm hK hB1 hK1 qz sm qb) rfl rfl bd Tryz.func49 rfl rfl (xb rfl rfl) rfl hfr rfl) ?_;refine y1 (gY) ?_;refine p1 (cZ) ?_;refine xn ?_;refine RV.done ?_;refine CV.ret ?_;have e1:¬ p.length=0:=(by simpa using c1)
      have e2:=of_decide_eq_false c2;have e3:¬ iC lo hi=0:=(by simpa using c3)
      have e4:¬ cN (ev q hi)=0:=(by simpa using c4)
      have e5:gL (L.map (·.1)) lo hi=0:=(by simpa using c5)
      exact aR rfl (.inr rfl) rfl (gA (by rw[oW,if_neg e1,if_neg e2,if_neg e3,if_neg e4,if_pos e5]))
     ·refine xk ?_;refine xk ?_;refine xk ?_;refine xk ?_;refine xk ?_;refine xk ?_;refine p1 (eI) ?_;refine xn ?_;refine RV.done ?_;refine CV.ret ?_;have e1:¬ p.length=0:=(by simpa using c1)
      have e2:=of_decide_eq_false c2;have e3:¬ iC lo hi=0:=(by simpa using c3)
      have e4:¬ cN (ev q hi)=0:=(by simpa using c4)
      have e5:¬ gL (L.map (·.1)) lo hi=0:=(by simpa using c5)
      exact aR rfl (.inr rfl) rfl (gA (by rw[oW,if_neg e1,if_neg e2,if_neg e3,if_neg e4,if_neg e5]))
end
end Vc
end Go.Proofs.YtjmbkipbmbnhjaaGreat

namespace Go.Proofs.YtjmbkipbmbnhjaaGreat
open Go.RowKit
open Dg Zn
namespace Vc
theorem aEn {a:Rat}:a.num<0 ↔ a<0:=by
 have h1:=Rat.num_nonneg (q:=a);have h2:=Rat.not_lt (a:=a) (b:=0);constructor
 ·intro h;refine Classical.byContradiction fun q=>?_;have:=h1.2 (h2.1 q);omega
 ·intro h;refine Classical.byContradiction fun q=>?_;exact h2.2 (h1.1 (by omega)) h
theorem aMu (a:Rat):cN a=if a<0 then -1 else if a=0 then 0 else 1:=by
 unfold cN aY;by_cases h:a<0
 ·rw[if_pos (aEn.2 h),if_pos h]
 ·rw[if_neg (fun q=>h (aEn.1 q)),if_neg h];by_cases h0:a=0
  ·subst h0;rfl
  ·rw[if_neg h0,if_pos];have h1:¬ a.num<0:=fun q=>h (aEn.1 q);have h2:a.num≠0:=fun q=>h0 (Rat.num_eq_zero.1 q);omega
theorem aVy {a t:Rat} (ht:0<t):cN (a*t)=cN a:=by
 have h1:a*t<0 ↔ a<0:=by
  constructor
  ·intro h;refine Classical.byContradiction fun q=>?_;have:=Rat.mul_nonneg (Rat.not_lt.1 q) (Rat.le_of_lt ht);grind
  ·intro h;have:=Rat.mul_pos (a := -a) (by grind) ht;grind
 have h2:a*t=0 ↔ a=0:=by
  constructor
  ·intro h;rcases Rat.mul_eq_zero.1 h with q | q
   ·exact q
   ·grind
  ·intro h;rw[h,Rat.zero_mul]
 rw[aMu,aMu];simp only[h1,h2]
theorem aMc {l l':List (List Rat)} {x x':Rat} (h:(l.map fun p=>cN (ev p x))=l'.map fun p=>cN (ev p x')):bG x l=bG x' l':=by
 rw[aKy,aKy,aA7,aA7];have:nE x l=nE x' l':=by unfold nE; rw[h]
 rw[this]
theorem aUz {M X:Nat} {L:List (List Rat × Rat)} (hL:∀ z∈L,uY M X z) (x:Rat):bG x (L.map (·.1))=bG x (L.map fun z=>aN z.1 z.2):=by
 refine aMc ?_;rw[List.map_map,List.map_map];refine List.map_congr_left fun z hz=>?_;show cN (ev z.1 x)=cN (ev (aN z.1 z.2) x);rw[cB,aVy (hL z hz).pos]
theorem jR.chn {B:Nat} {a b:List Rat} {l:List (List Rat)} (h:jR B a b l) (hd:∀ {a b U R:List Rat},aI a=a->aI b=b->b≠[]->dE B a b=some (U,R)->aI R=R/\∀ x,ev a x=ev U x*ev b x+ev R x):mM a b l:=by
 induction h with
 | nil a=>exact .nil a
 | @cons a b U R l ta za tb b0 zb hdiv hl zR hr ih =>
  obtain⟨tR,hev⟩:=hd ta tb b0 hdiv;have hsl:=kS R (-1);refine mM.cons (r:=aN R (-1)) tb b0 (cF _) (by omega) ⟨U,fun x=>?_⟩ ih;rw[cB,hev x];grind
theorem aP0 {p:List Rat} (hp:aI p=p) (d:Rat):cY (cY p d) (-d)=p:=jF (qY _ _) hp fun x=>by
 rw[eU,eU];congr 1;grind
theorem yH {p:List Rat} (hp:aI p=p) (d:Rat):(cY p d).length=p.length:=by
 have h1:=aB6 p d;have h2:=aB6 (cY p d) (-d);rw[aP0 hp d] at h2;omega
theorem yW {p:List Rat} (hp:aI p=p) (h0:p≠[]) (d:Rat):cY p d≠[]:=by
 intro h;have:=yH hp d;rw[h] at this;exact h0 (List.eq_nil_of_length_eq_zero this.symm)
theorem aSv {a b:List Rat} {l:List (List Rat)} (h:mM a b l) (d:Rat):mM (cY a d) (cY b d) (l.map fun q=>cY q d):=by
 induction h with
 | nil a=>exact .nil _
 | @cons a b r l tb b0 tr hl hW hr ih =>
  obtain⟨W,hW⟩:=hW;refine .cons (qY _ _) (yW tb b0 d) (qY _ _) (by rw[yH tr,yH tb]; exact hl) ⟨cY W d,fun x=>?_⟩ ih;rw[eU,eU,eU,eU];exact hW _
theorem aGn (p:List Rat) (d:Rat):cD (cY p d)=cY (cD p) d:=jF (cF _) (qY _ _) fun x=>by
 rw[yO,eU,yO];exact aSj (fun y=>eU p d y) x
theorem aQq (l:List (List Rat)) (d x:Rat):bG (x-d) (l.map fun q=>cY q d)=bG x l:=by
 refine aMc ?_;rw[List.map_map];refine List.map_congr_left fun p _=>?_;show cN (ev (cY p d) (x-d))=cN (ev p x);rw[eU];congr 2;grind
end Vc
end Go.Proofs.YtjmbkipbmbnhjaaGreat

namespace Go.Proofs.YtjmbkipbmbnhjaaGreat
open Go.RowKit
open Go.Lib (hid)
open Dg Zn
namespace Vc
theorem aL5 {B:Nat} {q:List Rat} (h0:aH q≠0) (hq:0<q.length):∀ {n:Nat} {u:List (Option Rat)} {r:List Rat} {X:List (Option Rat) × List Rat},aI r=r->(q.length<=r.length->∀ i,i<=r.length-q.length->u.getD i none=none)->r.length+1-q.length<=u.length->iT B q n u r=some X ->
  aI X.2=X.2/\∀ x,ev (cV u) x*ev q x+ev r x=ev (cV X.1) x*ev q x+ev X.2 x
 | 0,_,_,_,_,_,_,h=>nomatch h
 | n+1,u,r,X,tr,hun,hul,h=>by
  rw[iT] at h;split at h
  ·rename_i hl;split at h
   ·have hlen:=zU r q (aH r/aH q);have hsu:r.length-q.length<u.length:=by omega
    have hlr:aH r=aH r/aH q*aH q:=by
     rw[Rat.div_def,Rat.mul_assoc,Rat.inv_mul_cancel _ h0,Rat.mul_one]
    obtain⟨k1,k2⟩:=aL5 h0 hq (yY _ _ _) (fun _ i hi=>by
     rw[tX hsu,if_neg (by omega)];exact hun hl i (by omega)) (by rw[List.length_set]; omega) h
    refine⟨k1,fun x=>?_⟩;rw[<- k2,aEv hsu (hun hl _ (Nat.le_refl _)),aAp hl hq hlr];grind
   ·cases h
  ·injection h with h;subst h;exact⟨tr,fun x=>rfl⟩
theorem aWz {B:Nat} {a b U R:List Rat} (ta:aI a=a) (tb:aI b=b) (b0:b≠[]) (h:dE B a b=some (U,R)):aI R=R/\∀ x,ev a x=ev U x*ev b x+ev R x:=by
 unfold dE at h;rw[if_neg b0] at h;obtain⟨X,h1,h2⟩:=Option.map_eq_some_iff.1 h;obtain⟨rfl,rfl⟩:=Prod.mk.inj h2;have hb:0<b.length:=Nat.pos_of_ne_zero fun e=>b0 (List.eq_nil_of_length_eq_zero e);obtain⟨k1,k2⟩:=aL5 (fA tb b0) hb ta (fun _ i _=>by
  rw[List.getD_eq_getElem?_getD,List.getElem?_replicate];split<;>rfl) (by rw[List.length_replicate]; omega) h1
 refine⟨k1,fun x=>?_⟩;have h3:=k2 x;have h4:ev (cV (List.replicate (a.length+1-b.length) (none:Option Rat))) x=0:=by
  rw[nU (fun k=>yN _ k)]
 rw[h4,Rat.zero_mul,Rat.zero_add] at h3;exact h3
theorem aV4 {B:Nat} {a b:List Rat} {l:List (List Rat)} (h:jR B a b l):mM a b l:=h.chn fun ta tb b0 hd=>aWz ta tb b0 hd
/-! What aBf answers,told without reckoning. -/
def mL (p F:List Rat):Prop:=aI F=F/\F≠[]/\aH F=1/\∃ G,aI G=G/\G≠[]/\aH G=1/\dD p (cD p) G/\∃ c:Rat,c≠0/\∀ x,ev p x=c*ev F x*ev G x
theorem mL.unique {p F F':List Rat} (h:mL p F) (h':mL p F'):F=F':=by
 obtain⟨t,n,l,G,tG,nG,lG,hG,c,hc,he⟩:=h;obtain⟨t',n',l',G',tG',nG',lG',hG',c',hc',he'⟩:=h';obtain rfl:=aHi hG hG' tG tG' nG (lG.trans lG'.symm);have h1:∀ x,ev (aN F c) x=ev (aN F' c') x:=aX5 (g:=G) (by rw[tG]; exact nG) fun x=>by
  rw[cB,cB];have:=he x;have:=he' x;grind
 have hi:=Rat.mul_inv_cancel c hc;have hi':=Rat.mul_inv_cancel c' hc';have h2:∀ x,ev F x=(c'*c⁻¹)*ev F' x:=fun x=>by
  have:=h1 x;rw[cB,cB] at this;grind
 have hne:c'*c⁻¹≠0:=by
  intro e;have:c'*(c*c⁻¹)=0:=by rw[Rat.mul_comm c,<- Rat.mul_assoc,e,Rat.zero_mul]
  rw[hi,Rat.mul_one] at this;exact hc' this
 have:=aQl t t' n hne h2;rwa[aCd t l,aCd t' l'] at this
theorem zI (p q:List Rat) (k:Nat):(fC p q).getD k 0=p.getD k 0+q.getD k 0:=by
 rw[fC,nP];split
 ·rfl
 ·rw[cP (l:=p) (by omega),cP (l:=q) (by omega),Rat.add_zero]
theorem yC (p:List Rat) (a:Rat) (k:Nat):(aN p a).getD k 0=p.getD k 0*a:=by
 rw[aN,nP];split
 ·rfl
 ·rw[cP (l:=p) (by omega),Rat.zero_mul]
theorem aGq (p:List Rat) (d:Rat):∀ k,(eR p d (eL id (k+1))).getD k 0=aH p
 | 0=>by
  rw[oM,pH,zI,yC];show p.getD (p.length-1-0) 0+0*d=_;rw[Rat.zero_mul,Rat.add_zero]; rfl
 | k+1=>by
  rw[oM,pH,zI,yC,cP (l:=eR p d (eL id (k+1))) (by have:=aB7 p d (eL id (k+1)); rw[aEw] at this; exact this),Rat.zero_mul,Rat.add_zero];exact aGq p d k
theorem aG5 {p:List Rat} (hp:aI p=p) (h0:p≠[]) (d:Rat):aH (cY p d)=aH p:=by
 have hl:0<p.length:=Nat.pos_of_ne_zero fun e=>h0 (List.eq_nil_of_length_eq_zero e);rw[aH,yH hp d];obtain⟨k,hk⟩:∃ k,p.length=k+1:=⟨p.length-1,by omega⟩
 have:=aGq p d k;rw[cY,hk];exact this
theorem dD.shift {p q g:List Rat} (h:dD p q g) (d:Rat):dD (cY p d) (cY q d) (cY g d):=by
 obtain⟨⟨u,hu⟩,⟨v,hv⟩,a,b,hab⟩:=h;refine⟨⟨cY u d,fun x=>?_⟩,⟨cY v d,fun x=>?_⟩,cY a d,cY b d,fun x=>?_⟩
 ·rw[eU,eU,eU]; exact hu _
 ·rw[eU,eU,eU]; exact hv _
 ·rw[eU,eU,eU,eU,eU]; exact hab _
theorem mL.shift {p F:List Rat} (h:mL p F) (d:Rat):mL (cY p d) (cY F d):=by
 obtain⟨t,n,l,G,tG,nG,lG,hG,c,hc,he⟩:=h;refine⟨qY _ _,yW t n d,(aG5 t n d).trans l,cY G d,qY _ _,yW tG nG d,(aG5 tG nG d).trans lG,by rw[aGn]; exact hG.shift d,c,hc,fun x=>?_⟩;rw[eU,eU,eU];exact he _
theorem mL.scale {p F:List Rat} (h:mL p F) {f:Rat} (hf:f≠0):mL (aN p f) F:=by
 obtain⟨t,n,l,G,tG,nG,lG,hG,c,hc,he⟩:=h;have hi:=Rat.mul_inv_cancel f hf;have hn:f⁻¹≠0:=fun e=>by rw[e,Rat.mul_zero] at hi; exact absurd hi (by decide)
 refine⟨t,n,l,G,tG,nG,lG,(hG.left hn fun x=>?_).right hn fun x=>?_,c*f,fun e=>?_,fun x=>?_⟩
 ·rw[cB]; grind
 ·rw[yO,yO,aIy]; grind
 ·rcases Rat.mul_eq_zero.1 e with h | h
  ·exact hc h
  ·exact hf h
 ·rw[cB,he]; grind
theorem aW1 {p:List Rat} {c n:Nat} (hp:Pk p c n) (hn:n<=7) (hc:c<=70) (hc2:4<=c) (h0:p≠[]):∃ F,kG 100000 p=some F/\mL p F:=by
 obtain⟨G,U,R,f1,f2,f3,f4,f5,f6,f7,f8,f9,f10,f11⟩:=aHk hp (by omega) hc hc2;have hdz:aG (cD p) 100000=true:=(hp.derive 4 (by omega)).sz (by decide) (by omega);have hF:=aKi hdz f1 f6 f4 f8 f9;obtain⟨hG,G0,gl,tR,hRl,hdiv⟩:=f10 h0;have hr:=aHl f3 tR hG.1 hdiv hRl;have hpU:∀ x,ev p x=ev U x*ev G x:=fun x=>by rw[hdiv,hr,ev,Rat.add_zero]
 have hU0:U≠[]:=by
  rintro rfl;exact zO hp.tr h0 (uI fun x=>by rw[hpU,ev,Rat.zero_mul])
 obtain⟨m1,m2,m3,a,ha,hm⟩:=pK f7 hU0;have hF0:aX U≠[]:=fun e=>by rw[e,List.length_nil] at m2; exact hU0 (List.eq_nil_of_length_eq_zero m2.symm)
 have hi:=Rat.mul_inv_cancel a ha;have hn:a⁻¹≠0:=fun e=>by rw[e,Rat.mul_zero] at hi; exact absurd hi (by decide)
 refine⟨aX U,hF,m1,hF0,m3,G,f3,G0,gl,hG,a⁻¹,hn,fun x=>?_⟩;rw[hpU,hm];grind
def sC (p:List Rat) (C:List (List Rat)):Prop:=(p=[]/\C=[])\/∃ F l M X,∃ L:List (List Rat × Rat),p≠[]/\mL p F/\mM F (cD F) l/\C=L.map (·.1)/\(∀ z∈L,uY M X z)/\L.map (fun z=>aN z.1 z.2)=F::l
theorem sC.chg {p:List Rat} {C:List (List Rat)} (h:sC p C) (h0:p≠[]):∃ F l,mL p F/\mM F (cD F) l/\∀ x,bG x C=bG x (F::l):=by
 rcases h with ⟨h,_⟩ | ⟨F,l,M,X,L,_,h1,h2,rfl,h3,h4⟩
 ·exact absurd h h0
 ·exact⟨F,l,h1,h2,fun x=>by rw[aUz h3,h4]⟩
theorem aSt (a b d:Rat):iC (a-d) (b-d)=iC a b:=by
 rw[Rat.sub_eq_add_neg,Rat.sub_eq_add_neg,aUy]
theorem aI4 {p:List Rat} {C C':List (List Rat)} (tp:aI p=p) (d:Rat) (h:sC p C) (h':sC (cY p d) C') (lo hi:Rat):gL C' (lo-d) (hi-d)=gL C lo hi:=by
 unfold gL;rw[aSt];by_cases h0:p=[]
 ·have e:C=[]:=by
   rcases h with ⟨_,h⟩ | ⟨F,l,M,X,L,h,_⟩
   ·exact h
   ·exact absurd h0 h
  have e':C'=[]:=by
   rcases h' with ⟨_,h⟩ | ⟨F,l,M,X,L,h,_⟩
   ·exact h
   ·exact absurd (by rw[h0]; rfl) h
  rw[e,e']; rfl
 ·obtain⟨F,l,h1,h2,h3⟩:=h.chg h0;obtain⟨F',l',h4,h5,h6⟩:=h'.chg (yW tp h0 d);obtain rfl:=(h1.shift d).unique h4;rw[aGn] at h5;obtain rfl:=aI8 (aSv h2 d) h5;have e:∀ x,bG (x-d) C'=bG x C:=fun x=>by
   rw[h6,h3];exact aQq (F::l) d x
  rw[e,e]
theorem aSs {p:List Rat} {C C':List (List Rat)} {f:Rat} (hf:f≠0) (hs:p=[] ↔ aN p f=[]) (h:sC p C) (h':sC (aN p f) C') (lo hi:Rat):gL C' lo hi=gL C lo hi:=by
 unfold gL;by_cases h0:p=[]
 ·have e:C=[]:=by
   rcases h with ⟨_,h⟩ | ⟨F,l,M,X,L,h,_⟩
   ·exact h
   ·exact absurd h0 h
  have e':C'=[]:=by
   rcases h' with ⟨_,h⟩ | ⟨F,l,M,X,L,h,_⟩
   ·exact h
   ·exact absurd (hs.1 h0) h
  rw[e,e']
 ·obtain⟨F,l,h1,h2,h3⟩:=h.chg h0;obtain⟨F',l',h4,h5,h6⟩:=h'.chg (fun e=>h0 (hs.2 e));obtain rfl:=(h1.scale hf).unique h4;obtain rfl:=aI8 h2 h5;rw[h6,h6,h3,h3]
set_option maxRecDepth 100000
theorem aC5 {f:Nat->Nat} {x:AV Dm} (h:(x.ptrs.all fun b=>Nat.beq (f b) b)=true):(XV.av x).leR f (.av x):=fun _ _ _ _ hv=>hv.go (Goes.refl _ _) fun b hb=>by rw[Nat.eq_of_beq_eq_true (List.all_eq_true.1 h b hb)]
abbrev ptB (q:List Rat) (B:Nat):Sg Dm:=[(.b 500,.blk 24 [(none,PL q B)])]
theorem aJ2 (q F Q R:List Rat) (B:Nat) (hB:B<=300000) (hq:q.length<=1000000) (h1:kG B q=some F) (hF:F.length<=1000000) (h2:dE B q F=some (Q,R)):xK Tryz.prog 133 [(.ptr 500 0:SA Dm)] (ptB q B) (.one (PL F B)) (ptB Q B) []:=by
 refine xK.of (n:=12) (by exact List.cons_ne_nil _ _) Tryz.func133 rfl rfl rfl rfl rfl rfl rfl rfl fun cx ρ0 hNI hW hBw=>?_;refine sr rfl ?_;refine xn ?_;refine RV.done (sr rfl ?_);refine p1 (aJ cQ) ?_;refine p1 (aJ5 (hne:=List.cons_ne_nil _ _) hNI hW hBw rfl rfl (aC6 q F B hB hq h1) rfl rfl bd Tryz.func94 rfl rfl (xa rfl) rfl rfl) ?_;refine xn ?_;refine RV.done (sr rfl ?_);refine p1 (aJ cQ) ?_;refine xm ?_;refine p1 (aJ5 (hne:=List.cons_ne_nil _ _) hNI hW hBw rfl rfl (zL q F B hB hq hF h2) rfl rfl bd Tryz.func134 rfl rfl (xb rfl rfl) rfl rfl) ?_;refine xm ?_;refine p1 (cK) ?_;refine p1 (cK) ?_;refine p1 (aQ (cQ).2) ?_;refine RV.done (sr rfl ?_);refine xm ?_;refine xn ?_;refine RV.done ?_;refine CV.ret ?_;exact aYm rfl (.inr rfl) rfl ⟨rfl,trivial⟩ (fun _=>rfl) rfl cC
def uR (p q:List Rat):Bool:=decide (0<q.length)&&(decide (p.length<=1000)&&(decide (q.length<=1000)&&(decide (min p.length q.length<=7)&&(aG p 400&&(aG q 400&&aG (tab (nB p q) (p.length+q.length-1)) 400)))))
theorem aKc {p q:List Rat} (B:Nat) (h:uR p q=true) (hz:aG (dY p q) B=true):aD Tryz.prog 33 [PL p B,PL q B] (.one (PL (dY p q) B)):=by
 simp only[uR,Bool.and_eq_true,decide_eq_true_eq] at h;obtain⟨h1,h2,h3,h4,h5,h6,h7⟩:=h;exact(aVd p q 400 7 400 h1 (by omega) (by omega) (by decide) h4 (by decide) h7).mono (fun L ρ w vs hv=>match vs,hv with
  | [_,_],⟨a,b,c⟩=>⟨dJ h5 L ρ w _ a,dJ h6 L ρ w _ b,c⟩) (dJ hz)
def oC (B:Nat):Nat->List Rat->List Rat->Option (List Rat)
 | 0,_,_=>none
 | n+1,q,o=>if q.length<=1 then (if uR o q&&aG (dY o q) B then some (dY o q) else none) else
  (kG B q).bind fun F=>(dE B q F).bind fun x=>(kG B x.1).bind fun G=>(dE B x.1 G).bind fun y=>(dE B F G).bind fun z =>
   if decide (F.length<=1000000)&&(decide (x.1.length<=1000000)&&(decide (G.length<=1000000)&&(decide (y.1.length<=1000000)&&(uR o z.1&&aG (dY o z.1) B)))) then oC B n y.1 (dY o z.1) else none
theorem aUa {B n:Nat} {q o r:List Rat} (h:oC B (n+1) q o=some r) (hq:q.length<=1):uR o q=true/\aG (dY o q) B=true/\r=dY o q:=by
 rw[oC,if_pos hq] at h;split at h
 ·rename_i hc;rw[Bool.and_eq_true] at hc;exact⟨hc.1,hc.2,(Option.some.inj h).symm⟩
 ·cases h
theorem aR4 {B n:Nat} {q o r:List Rat} (h:oC B (n+1) q o=some r) (hq:¬ q.length<=1):∃ F Q R G Y R' Z R'',kG B q=some F/\dE B q F=some (Q,R)/\kG B Q=some G/\dE B Q G=some (Y,R')/\dE B F G=some (Z,R'')/\F.length<=1000000/\Q.length<=1000000/\G.length<=1000000/\Y.length<=1000000/\uR o Z=true/\aG (dY o Z) B=true/\oC B n Y (dY o Z)=some r:=by
 rw[oC,if_neg hq] at h;obtain⟨F,h1,h⟩:=Option.bind_eq_some_iff.1 h;obtain⟨⟨Q,R⟩,h2,h⟩:=Option.bind_eq_some_iff.1 h;obtain⟨G,h3,h⟩:=Option.bind_eq_some_iff.1 h;obtain⟨⟨Y,R'⟩,h4,h⟩:=Option.bind_eq_some_iff.1 h;obtain⟨⟨Z,R''⟩,h5,h⟩:=Option.bind_eq_some_iff.1 h;split at h
 ·rename_i hc;simp only[Bool.and_eq_true,decide_eq_true_eq] at hc;exact⟨F,Q,R,G,Y,R',Z,R'',h1,h2,h3,h4,h5,hc.1,hc.2.1,hc.2.2.1,hc.2.2.2.1,hc.2.2.2.2.1,hc.2.2.2.2.2,h⟩
 ·cases h
theorem aT9 {B n:Nat} {q o r:List Rat} (h:oC B n q o=some r):∃ m,n=m+1:=by
 cases n with
 | zero=>cases h
 | succ m=>exact⟨m,rfl⟩
theorem aWi (p r:List Rat) (B n:Nat) (hB:B<=300000) (hB6:6<=B) (hp:p.length<=1000000) (h:oC B n p [1]=some r):aD Tryz.prog 88 [PL p B] (.one (PL r B)):=by
 refine aD.of (n:=33) Tryz.func88 rfl rfl rfl rfl rfl fun cx hfr=>?_;refine sr rfl ?_;refine xn ?_;refine RV.done (sr rfl ?_);refine xm ?_;refine p2 (aU (i:=500) aCq) ?_;refine p1 (aQ (cQ).2) ?_;refine RV.done (sr rfl ?_);refine p1 (aT8 (hne:=List.cons_ne_nil _ _) (ss:=[(.ptr 500 0:SA Dm)]) rfl rfl bd ⟨rfl,trivial⟩) ?_;refine xn ?_;refine RV.done (sr rfl ?_);refine xd rfl (oV 1 1 (by decide) (by decide) (by decide) (by decide)) Tryz.func57 (xb rfl rfl) hfr ?_;refine p1 (fZ (k:=some 4) (G:=Dm.gen (bY (some 4) (bN [Rat.divInt 1 1] 6))) (cM _ _) aZ mU rfl rfl rfl (by intro s hs; obtain rfl:=List.mem_singleton.1 hs; rfl) rfl rfl rfl bd (xa rfl)) ?_;refine xn ?_;refine RV.done ?_;refine CV.seq ?_;refine CV.block ?_;have h1:aG [(1:Rat)] 6=true:=(by decide +kernel)
 have e1:Rat.divInt 1 1=(1:Rat):=(by decide +kernel)
 rw[e1];refine CV.loop (X:={z:Nat × List Rat × List Rat // oC B z.1 z.2.1 z.2.2=some r/\z.2.1.length<=1000000}) (fun z=>[(.s 3,.av (.one (.ptr 500 0))),(.b 500,.blk 24 [(none,PL z.1.2.1 B)]),(.s 4,.av (.one (.lk (fnR 133 [(.ptr 500 0:SA Dm)])))),(.s 5,.av (.one (PL z.1.2.2 B)))]) (fun z=>z.1.1) ⟨(n,p,[1]),h,hp⟩ (bF.mk ⟨aC _,aC _,aC _,aD5 rfl (dJ (K:=6) (pU hB6 h1)),trivial⟩ rfl rfl) (fun z=>?_);obtain⟨⟨n,q,o⟩,hz,hql⟩:=z;simp only at hz hql |-;obtain⟨m,rfl⟩:=aT9 hz;refine CV.seq ?_;refine sr rfl ?_;refine p1 (aJ cQ) ?_;refine xc (pO q B hql) Tryz.func51 (xa rfl) hfr ?_;refine p1 (gY) ?_;refine RV.done ?_;refine CV.cond rfl (fun hc=>?_) (fun hc=>?_)
 ·have hq1:¬ q.length<=1:=(by have:=of_decide_eq_true hc; omega)
  obtain⟨F,Q,R,G,Y,R1,Z,R2,a1,a2,a3,a4,a5,l1,l2,l3,l4,m1,m2,hz2⟩:=aR4 hz hq1;refine CV.skip ?_;refine CV.block ?_;refine sr rfl ?_;refine xm ?_;refine p2 (aIk (nw:=[]) (sas:=[]) (caps:=[(.ptr 500 0:SA Dm)]) (aJ2 q F Q R B hB hql a1 l1 a2) hfr rfl (cx.wf hfr) Tryz.func133 rfl rfl rfl rfl bd rfl trivial ⟨rfl,trivial⟩ trivial rfl rfl rfl rfl) ?_;refine xm ?_;refine p2 (aIk (nw:=[]) (sas:=[]) (caps:=[(.ptr 500 0:SA Dm)]) (aJ2 Q G Y R1 B hB l2 a3 l3 a4) hfr rfl (cx.wf hfr) Tryz.func133 rfl rfl rfl rfl bd rfl trivial ⟨rfl,trivial⟩ trivial rfl rfl rfl rfl) ?_;refine xn ?_;refine xn ?_;refine RV.done (sr rfl ?_);refine xm ?_;refine xm ?_;refine xc (zL F G B hB l1 l3 a5) Tryz.func134 (xb rfl rfl) hfr ?_;refine xm ?_;refine p1 (cK) ?_;refine p1 (cK) ?_;refine xn ?_;refine xn ?_;refine RV.done ?_;refine CV.region rfl (fun h=>nomatch h) ?_;refine xm ?_;refine xm ?_;refine xc (aKc B m1 m2) Tryz.func33 (xb rfl rfl) hfr ?_;refine xn ?_;refine RV.done ?_;exact⟨⟨(m,Y,dY o Z),hz2,l4⟩,bF.mk ⟨aC _,aC _,aC _,aC _,trivial⟩ rfl rfl,by show m<m+1; omega⟩
 ·refine CV.exit ?_;refine CV.seq ?_;have hq1:q.length<=1:=(by have:=of_decide_eq_false hc; omega)
  obtain⟨m1,m2,hr⟩:=aUa hz hq1;rw[hr];refine CV.region rfl (fun h=>nomatch h) ?_;refine xm ?_;refine p1 (aJ cQ) ?_;refine xc (aKc B m1 m2) Tryz.func33 (xb rfl rfl) hfr ?_;refine xn ?_;refine RV.done ?_;refine CV.ret ?_;exact aR rfl (.inr rfl) rfl cC
theorem aX0:oC 100000 6 gO [1]=some [2,1]:=by decide +kernel
def aA9 (x:Rat) (K:Nat) (c:Int):qQ where
 is:=fun w v=>∃ cs:List Value,v=.agg (cs++[Value.int .i64 c]).toArray/\Dm.at (.rt x.num (qd x) K) w (.agg cs.toArray)
 shape:=some 5
 plain:=false
 ok:=fun w v ⟨cs,h,hc⟩=>by
  subst h;obtain⟨a,n,c',a',n',c'',rfl,_⟩:=gV hc;exact⟨_,rfl,rfl,by simp[Value.oneCell']⟩
 pl:=fun h=>nomatch h
abbrev EG (x:Rat) (K:Nat) (c:Int):SA Dm:=.d (Dm.gen (aA9 x K c))
theorem aNi {x:Rat} {K:Nat} {c:Int}:∀ w v,Dm.at (Dm.gen (aA9 x K c)) w v->∃ cs:List Value,v=.agg cs.toArray/\cs[4]?=some (.int .i64 c):=by
 rintro w v ⟨cs,h,hc⟩;obtain⟨a,n,c',a',n',c'',rfl,_⟩:=gV hc;exact⟨_,h,rfl⟩
theorem uF {x:Rat} {K:Nat} {c:Int}:lT (Dm.gen (aA9 x K c)) 0 (some 4) (RT x K):=by
 rintro w cs ⟨c4,h,hc⟩;obtain rfl:cs=c4++[Value.int .i64 c]:=by simpa using congrArg Array.toList (Value.agg.inj h)
 obtain⟨a,n,c',a',n',c'',e,_⟩:=gV hc;refine⟨[],c4,[Value.int .i64 c],.agg c4.toArray,rfl,rfl,⟨rfl,?_,?_⟩,hc⟩
 ·rw[e]; rfl
 ·rw[e]; simp[Value.oneCell']
theorem qF {x:Rat} {K:Nat} {c:Int}:lT (Dm.gen (aA9 x K c)) 4 none (.v (.int .i64 c)):=by
 rintro w cs ⟨c4,h,hc⟩;obtain rfl:cs=c4++[Value.int .i64 c]:=by simpa using congrArg Array.toList (Value.agg.inj h)
 obtain⟨a,n,c',a',n',c'',e,_⟩:=gV hc;exact⟨c4,[Value.int .i64 c],[],.int .i64 c,by simp,by rw[e]; rfl,⟨rfl,rfl⟩,rfl⟩
theorem uG:gX Tryz.prog 83 0 0:=gX.of (sz:=3) (by kernel_rfl)
theorem qG:gX Tryz.prog 83 1 4:=gX.of (sz:=0) (by kernel_rfl)
theorem aNc:aAc Tryz.prog 83 1=some (4,3):=by kernel_rfl
theorem kV:(Tryz.prog.info? 83).map (·.zero)=some (some (.agg #[.bool false,.slice none 0 0,.bool false,.slice none 0 0,.int .i64 0])):=by kernel_rfl
theorem dK:dF Tryz.prog 83 (some 5):=dF.row (by kernel_rfl) (by kernel_rfl)
theorem xA:(Tryz.prog.info? 83).map (·.size)=some 5:=by kernel_rfl
theorem iQ:Tryz.prog.underlying 111=some (.slice 83):=by kernel_rfl
theorem aU3 (parts:List (Nat × Value)):Tryz.prog.built 83 parts=Instr.fill ((#[(0,4),(4,1)]:Array (Nat × Nat))[·]?) #[.bool false,.slice none 0 0,.bool false,.slice none 0 0,.int .i64 0] parts:=by kernel_rfl
section
variable {cx:Cx Dm} {n:Nat} {σ:St Dm} {o:Oper} {d:Nat}
theorem aIl {x y:Operand} {a:Rat} {K:Nat} {c:Int} (ho:o.op=.build 83 #[(0,x),(1,y)]) (hd:o.dst=some d) (hn:d<n) (hx:opd σ x=.av (.one (RT a K))) (hy:opd σ y=.av (.one (.v (.int .i64 c)))):aM Tryz.prog cx n σ o (bE x++bE y) [(.s d,.av (.one (EG a K c)))]:=by
 refine eZ hd hn rfl fun σ' ρ ac w h hk=>?_;have h1:=h.opd ((cL fun q hq=>hk q (by simp[hq])).trans hx);have h2:ac.eval y=.int .i64 c:=h.opd ((cL fun q hq=>hk q (by simp[hq])).trans hy);obtain⟨cs,hv⟩:∃ cs:List Value,ac.eval x=.agg cs.toArray:=by
  obtain⟨s,t',e,_⟩:=h1 w (Agree.refl _ _);exact⟨_,e⟩
 have h1':∀ w',Agree (aT cx σ' ρ) w w'->Dm.at (.rt a.num (qd a) K) w' (.agg cs.toArray):=fun w' hag=>by rw[<- hv]; exact h1 w' hag
 obtain⟨b,m,c1,b',m',c',rfl,_⟩:=gV (h1' w (Agree.refl _ _));refine⟨.agg #[.bool (decide (a.num<0)),.slice b m c1,.bool (decide (qd a<0)),.slice b' m' c',.int .i64 c],?_,?_⟩
 ·have hb:Tryz.prog.built 83 #[(0,ac.eval x),(1,ac.eval y)].toList=some #[.bool (decide (a.num<0)),.slice b m c1,.bool (decide (qd a<0)),.slice b' m' c',.int .i64 c]:=by
   rw[hv,h2,aU3]
   kernel_rfl
  have hb2:=run_build w 83 #[(0,ac.eval x),(1,ac.eval y)] _ hb;simp only[execOp,ho,Sem.run_bind];rw[show (#[(0,x),(1,y)]:Array (Nat × Operand)).map (fun p=>(p.1,ac.eval p.2))=#[(0,ac.eval x),(1,ac.eval y)] by simp,hb2];rfl
 ·intro w' hag;exact⟨_,rfl,h1' w' hag⟩
end
abbrev kZ (l:List (List Rat)) (B:Nat):SA Dm:=.d (Dm.gen (pG none (kO l B)))
theorem yP (l:List (List Rat)) (x:Rat) (B K:Nat) (hl:l.length<=1000000) (hE:fS l x B K):aD Tryz.prog 116 [RT x K,kZ l B] (.one (EG x K (bG x l))):=by
 refine aD.of (n:=9) Tryz.func116 rfl rfl rfl rfl rfl fun cx hfr=>?_;refine sr rfl ?_;refine p1 (jV) ?_;refine p2 (aU (i:=0) kV) ?_;refine RV.done ?_;refine CV.seq ?_;refine CV.region rfl (fun _=>by kernel_rfl) ?_;refine p1 (bO aB) ?_;refine p1 (bO aJl) ?_;refine p1 (bO aB) ?_;refine p1 (aDj (xZ l x B K hl hE) (aNd _) (cx.wf hfr) rfl rfl bd Tryz.func16 rfl rfl (xb rfl rfl) rfl) ?_;refine p1 (aIl rfl rfl bd rfl rfl) ?_;refine p2 (iY (dK).2) ?_;refine bV (by kernel_rfl) ?_;refine CV.ret ?_;exact aR rfl (.inr rfl) ⟨_,_,_,_,_,rfl,rfl,rfl,dK⟩ cC
def mY (l:List (List Rat)) (all:Int) (K:Nat):Nat->Rat->Option Rat
 | 0,_=>none
 | n+1,x=>if bG (-x) l-bG x l=all then some x else if aG [x*x] K=true then mY l all K n (x*x) else none
theorem aSl {l:List (List Rat)} {all:Int} {K n:Nat} {x y:Rat} (h:mY l all K n x=some y):∃ m,n=m+1:=by
 cases n with
 | zero=>cases h
 | succ m=>exact⟨m,rfl⟩
theorem aSk {l:List (List Rat)} {all:Int} {K n:Nat} {x y:Rat} (h:mY l all K (n+1) x=some y) (hc:bG (-x) l-bG x l=all):x=y:=by
 rw[mY,if_pos hc] at h;exact Option.some.inj h
theorem aUp {l:List (List Rat)} {all:Int} {K n:Nat} {x y:Rat} (h:mY l all K (n+1) x=some y) (hc:¬ bG (-x) l-bG x l=all):aG [x*x] K=true/\mY l all K n (x*x)=some y:=by
 rw[mY,if_neg hc] at h;split at h
 ·rename_i h1; exact⟨h1,h⟩
 ·cases h
theorem aUo (l:List (List Rat)) (b y:Rat) (B K n:Nat) (hl:l.length<=1000000) (hK6:6<=K) (hK:K<=100000) (hb:aG [b] K=true) (hE:∀ x,aG [x] K=true->fS l x B K) (h:mY l (bG (-b) l-bG b l) K n (Rat.divInt 2 1)=some y):aD Tryz.prog 66 [kO l B,RT b K] (.tup [EG (-y) K (bG (-y) l),EG y K (bG y l)]):=by
 have b1:=mT (-b) l;have b2:=mT b l;have h2:aG [Rat.divInt 2 1] K=true:=pU hK6 (by decide +kernel);refine aD.of (n:=43) Tryz.func66 rfl rfl rfl rfl rfl fun cx hfr=>?_;refine sr rfl ?_;refine p1 (jV) ?_;refine p2 (cA (i:=0)) ?_;refine p2 (aU (i:=1) kV) ?_;refine p2 (aU (i:=2) kV) ?_;refine RV.done (sr rfl ?_);refine p1 (rQ (caps:=[.tmp 2]) (ss:=[_]) rfl rfl bd (xa rfl) rfl) ?_;refine xn ?_;refine RV.done ?_;refine CV.seq ?_;refine CV.region rfl (fun _=>by kernel_rfl) ?_;refine xm ?_;refine p1 (aJ aB) ?_;refine xc (wG b K) Tryz.func100 (xa rfl) hfr ?_;refine p1 (vS (yP l (-b) B K hl (hE _ (aE9 hb))) Tryz.func116 rfl rfl rfl rfl bd rfl (xa rfl) rfl hfr rfl) ?_;refine p1 (aIj (aNi) aNc (by kernel_rfl) rfl rfl bd rfl) ?_;refine xm ?_;refine p1 (aJ aB) ?_;refine p1 (vS (yP l b B K hl (hE _ hb)) Tryz.func116 rfl rfl rfl rfl bd rfl (xa rfl) rfl hfr rfl) ?_;refine p1 (aIj (aNi) aNc (by kernel_rfl) rfl rfl bd rfl) ?_;refine p1 (eB (c:=bG (-b) l-bG b l) (bU (by omega) (by omega)) rfl rfl bd rfl rfl) ?_;refine xn ?_;refine bV (by kernel_rfl) ?_;refine sr rfl ?_;refine xd rfl ((oV 2 1 (by decide) (by decide) (by decide) (by decide)).mono (fun _ _ _ _ h=>h) (dT h2)) Tryz.func57 (xb rfl rfl) hfr ?_;refine p2 (aU (i:=3) bX) ?_;refine p1 (aQ (aB).2) ?_;refine RV.done ?_;refine CV.block ?_;refine CV.loop (X:={z:Nat × Rat // mY l (bG (-b) l-bG b l) K z.1 z.2=some y/\aG [z.2] K=true}) (fun z=>[(.s 6,.av (.one (.d (Dm.gen (qO 116 [kZ l B]))))),(.s 7,.av (.one (.v (.int .i64 (bG (-b) l-bG b l))))),(.s 8,.av (.one (.ptr 3 0))),(.b 3,.blk 31 [(some 4,RT z.1.2 K)]),(.s 4,.av (.one (.ptr 1 0))),(.b 1,.blk 83 [(some 5,(SA.v (.agg #[.bool false,.slice none 0 0,.bool false,.slice none 0 0,.int .i64 0]):SA Dm))]),(.s 5,.av (.one (.ptr 2 0))),(.b 2,.blk 83 [(some 5,(SA.v (.agg #[.bool false,.slice none 0 0,.bool false,.slice none 0 0,.int .i64 0]):SA Dm))])]) (fun z=>z.1.1) ⟨(n,Rat.divInt 2 1),h,h2⟩ (bF.mk ⟨aC _,aC _,aC _,aC _,aC _,aC _,aC _,aC _,trivial⟩ rfl rfl) (fun z=>?_);obtain⟨⟨n,x⟩,hz,hx⟩:=z;simp only at hz hx |-;obtain⟨m,rfl⟩:=aSl hz;have c1:=mT (-x) l;have c2:=mT x l;refine CV.seq ?_;refine CV.block ?_;refine CV.seq ?_;refine CV.region rfl (fun _=>by kernel_rfl) ?_;refine xm ?_;refine p1 (aJ aB) ?_;refine xc (wG x K) Tryz.func100 (xa rfl) hfr ?_;refine p1 (vS (yP l (-x) B K hl (hE _ (aE9 hx))) Tryz.func116 rfl rfl rfl rfl bd rfl (xa rfl) rfl hfr rfl) ?_;refine xm ?_;refine p1 (aJ aB) ?_;refine p1 (vS (yP l x B K hl (hE _ hx)) Tryz.func116 rfl rfl rfl rfl bd rfl (xa rfl) rfl hfr rfl) ?_;refine p2 (aU (i:=4) kV) ?_;refine p2 (aU (i:=5) kV) ?_;refine p2 (iY (dK).2) ?_;refine p2 (iY (dK).2) ?_;refine bV (by kernel_rfl) ?_;refine sr rfl ?_;refine p1 (bH qG) ?_;refine p1 (bI 4 qF iG) ?_;refine p1 (bH qG) ?_;refine p1 (bI 4 qF iG) ?_;refine p1 (eB (c:=bG (-x) l-bG x l) (bU (by omega) (by omega)) rfl rfl bd rfl rfl) ?_;refine xm ?_;refine p1 (cR) ?_;refine RV.done ?_;refine CV.cond rfl (fun hc=>?_) (fun hc=>?_)
 ·have hxy:=aSk hz (by simpa using hc);refine CV.seq ?_;refine CV.region rfl (fun _=>by kernel_rfl) ?_;refine p1 (aJ dK) ?_;refine p1 (aJ dK) ?_;refine p2 (iY (dK).2) ?_;refine p2 (iY (dK).2) ?_;refine bV (by kernel_rfl) ?_;refine CV.ret ?_;subst hxy;exact pB rfl (.inr rfl) ⟨_,_,_,_,_,rfl,rfl,rfl,dK⟩ ⟨_,_,_,_,_,rfl,rfl,rfl,dK⟩ aEp
 ·have hn:=aUp hz (by simpa using hc);refine CV.skip ?_;refine CV.seq ?_;refine CV.seq ?_;refine CV.sub (l':=[(.s 6,.av (.one (.d (Dm.gen (qO 116 [kZ l B]))))),(.s 7,.av (.one (.v (.int .i64 (bG (-b) l-bG b l))))),(.s 8,.av (.one (.ptr 3 0))),(.b 3,.blk 31 [(some 4,RT x K)]),(.s 4,.av (.one (.ptr 1 0))),(.b 1,.blk 83 [(some 5,(SA.v (.agg #[.bool false,.slice none 0 0,.bool false,.slice none 0 0,.int .i64 0]):SA Dm))]),(.s 5,.av (.one (.ptr 2 0))),(.b 2,.blk 83 [(some 5,(SA.v (.agg #[.bool false,.slice none 0 0,.bool false,.slice none 0 0,.int .i64 0]):SA Dm))])]) (bF.mk ⟨aC _,aC _,aC _,aC _,aC _,aC _,aC _,aC _,trivial⟩ rfl rfl) ?_;refine CV.region rfl (fun h=>nomatch h) ?_;refine p1 (aJ aB) ?_;refine RV.done ?_;refine CV.region rfl (fun h=>nomatch h) ?_;refine p2 (aU (i:=6) bX) ?_;refine p1 (aQ (aB).2) ?_;refine RV.done ?_;refine CV.region rfl (fun h=>nomatch h) ?_;refine p1 (aJ aB) ?_;refine p1 (aJ aB) ?_;refine xd rfl ((nT x x K K (by omega) (by omega)).mono (fun _ _ _ _ h=>h) (dT hn.1)) Tryz.func87 (xb rfl rfl) hfr ?_;refine p1 (aQ (aB).2) ?_;refine RV.done ?_;exact⟨⟨(m,x*x),hn.2,hn.1⟩,jX (fun i=>if i=3 then 6 else i) ⟨fK,fK,fun _ _ _ _ h=>h,⟨rfl,fun _ _ _ _ h=>h⟩,fun _ _ _ _ h=>h,⟨rfl,fun _ _ _ _ h=>h⟩,fun _ _ _ _ h=>h,⟨rfl,fun _ _ _ _ h=>h⟩,trivial⟩ rfl rfl rfl rfl,by show m<m+1; omega⟩
theorem aWs:mY (lR.map (·.1)) (bG (-4) (lR.map (·.1))-bG 4 (lR.map (·.1))) 6 5 (Rat.divInt 2 1)=some 4:=by decide +kernel
section
variable (zs1 zs2 zs3:List Int) (hz1:∀ z∈zs1,-9223372036854775808<=z/\z<=9223372036854775807) (hz2:∀ z∈zs2,-9223372036854775808<=z/\z<=9223372036854775807) (hz3:∀ z∈zs3,-9223372036854775808<=z/\z<=9223372036854775807) (c:Int) (hc1 : -9223372036854775808<=c) (hc2:c<=9223372036854775807)
include hz1 hz2 hz3 hc1 hc2
end
end Vc
end Go.Proofs.YtjmbkipbmbnhjaaGreat
