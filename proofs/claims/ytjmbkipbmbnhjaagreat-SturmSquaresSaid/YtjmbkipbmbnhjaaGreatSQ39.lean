/-
  
-/
import Derived.Test.YtjmbkipbmbnhjaaGreatSQ38
import Derived.Test.YtjmbkipbmbnhjaaGreatSQ37
import Derived.Test.YtjmbkipbmbnhjaaGreatSQ3
import Derived.Test.YtjmbkipbmbnhjaaGreatSQ9
import Derived.Test.YtjmbkipbmbnhjaaGreatSQ36
set_option linter.unusedVariables false
set_option linter.unusedSimpArgs false
set_option linter.unusedSectionVars false
namespace Go.Proofs.YtjmbkipbmbnhjaaGreat
open Dg Zn Tx
namespace Tx
/-! Codes. -/
/-! Fractions. -/
open Vc
end Tx
end Go.Proofs.YtjmbkipbmbnhjaaGreat

namespace Go.Proofs.YtjmbkipbmbnhjaaGreat
open Go.RowKit
open Go.Lib (hid)
open Dg Zn Tx
namespace Vc
section
variable {D:Type} [bR D] {P:Program} {cx:Cx D} {n:Nat} {σ:St D} {o:Oper} {d:Nat} {x y:Operand} {T T':TypeId} {k:IntKind} {a b:Int}
theorem aLd {r:Bool} (h:decide (a<b)=r) (ho:o.op=.binOp .lss T x y T') (hd:o.dst=some d) (hn:d<n) (hx:opd σ x=.av (.one (.v (.int k a)))) (hy:opd σ y=.av (.one (.v (.int k b)))):aS P cx n σ o (bF x++bF y) [(.s d,.av (.one (.v (.bool r))))]:=by
 have q:=eE (P:=P) (cx:=cx) ho hd hn hx hy;rwa[h] at q
theorem qE {r:Bool} (h:decide (b<a)=r) (ho:o.op=.binOp .gtr T x y T':=by exact rfl) (hd:o.dst=some d:=by exact rfl) (hn:d<n:=by exact bd) (hx:opd σ x=.av (.one (.v (.int k a))):=by exact rfl) (hy:opd σ y=.av (.one (.v (.int k b))):=by exact rfl):aS P cx n σ o (bF x++bF y) [(.s d,.av (.one (.v (.bool r))))]:=by
 have q:=iC (P:=P) (cx:=cx) ho hd hn hx hy;rwa[show decide (a>b)=r from h] at q
end
end Vc
end Go.Proofs.YtjmbkipbmbnhjaaGreat

namespace Go.Proofs.YtjmbkipbmbnhjaaGreat
open Go.RowKit
open Dg Zn
namespace Vc
def aJ:List Rat->List Rat
 | []=>[]
 | a::l=>if aJ l=[] then (if a=0 then [] else [a]) else a::aJ l
theorem sT (l:List Rat) (a:Rat):aJ (l++[a])=if a=0 then aJ l else l++[a]:=by
 induction l with
 | nil=>show (if aJ []=[] then _ else _)=_; rfl
 | cons b l ih =>
  rw[List.cons_append,aJ,ih];by_cases h:a=0
  ·rw[if_pos h,if_pos h,aJ]
  ·rw[if_neg h,if_neg h,if_neg (by simp)]
theorem aCa (l:List Rat):aJ l=l.take (aJ l).length:=by
 induction l with
 | nil=>rfl
 | cons a l ih =>
  rw[aJ];by_cases h:aJ l=[]
  ·rw[if_pos h];split
   ·rfl
   ·rfl
  ·rw[if_neg h,List.length_cons,List.take_succ_cons,<- ih]
theorem jK (l:List Rat):(aJ l).length<=l.length:=by
 rw[aCa];exact List.length_take_le' _ _
theorem aGt (l:List Rat):aJ l=[]\/(aJ l).getD ((aJ l).length-1) 0≠0:=by
 induction l with
 | nil=>exact .inl rfl
 | cons a l ih =>
  rw[aJ];by_cases h:aJ l=[]
  ·rw[if_pos h];by_cases h0:a=0
   ·rw[if_pos h0]; exact .inl rfl
   ·rw[if_neg h0]; exact .inr h0
  ·rw[if_neg h]
   right
   have:=ih.resolve_left h;have hl:0<(aJ l).length:=List.length_pos_iff.2 h;rw[List.length_cons,Nat.add_sub_cancel];obtain⟨m,hm⟩:∃ m,(aJ l).length=m+1:=⟨(aJ l).length-1,by omega⟩
   rw[hm] at this |-;simpa using this
def bV (l:List Rat) (K:Nat):List (SA Dm):=l.map fun a=>RT a K
abbrev PL (l:List Rat) (K:Nat):SA Dm:=.d (Dm.gen (cM (some 4) (bV l K)))
theorem bL {l:List Rat} {K:Nat}:(bV l K).length=l.length:=by simp[bV]
theorem gE {l:List Rat} {K i:Nat} (h:i<l.length):(bV l K)[i]?=some (RT (l.getD i 0) K):=by
 simp[bV,List.getElem?_eq_getElem h,List.getD_eq_getElem?_getD]
theorem aDe {l:List Rat} {K:Nat}:(bV l K).flatMap SA.ptrs=[]:=by
 rw[List.flatMap_eq_nil_iff];intro s hs;obtain⟨b,_,rfl⟩:=List.mem_map.1 hs;rfl
theorem aDd {l:List Rat} {K n:Nat}:(bV l K).take n=bV (l.take n) K:=by simp[bV,List.map_take]
theorem aDg {l:List Rat} {K n:Nat}:(bV l K).drop n=bV (l.drop n) K:=by simp[bV,List.map_drop]
theorem aH2 {l:List Rat} {K:Nat}:∀ s∈bV l K,s.plain=true:=by
 intro s hs;obtain⟨b,_,rfl⟩:=List.mem_map.1 hs;rfl
theorem aDf {l:List Rat} {K:Nat}:∀ s∈bV l K,s.kind=some (some 4):=by
 intro s hs;obtain⟨b,_,rfl⟩:=List.mem_map.1 hs;rfl
theorem aTi {f:Nat->Rat} {K m k:Nat} (h:k<m):(jT f K m (k+1))[k]?=some (RT (f k) K):=by simp[jT,h]
def tab (g:Nat->Rat) (n:Nat):List Rat:=(List.range n).map g
theorem iA {g:Nat->Rat} {n:Nat}:(tab g n).length=n:=by simp[tab]
theorem aJb {g:Nat->Rat} {n:Nat}:tab g (n+1)=tab g n++[g n]:=by simp[tab,List.range_succ]
theorem wH {g:Nat->Rat} {K n:Nat}:jC g K n=bV (tab g n) K:=by simp[jC,bV,tab]
theorem aS4 (l:List Rat):tab (fun i=>l.getD i 0) l.length=l:=by
 apply List.ext_getElem
 ·simp[tab]
 ·intro i h1 h2;simp[tab,List.getD_eq_getElem?_getD,List.getElem?_eq_getElem h2]
def atR (l:List Rat) (k:Int):Rat:=if k<0 then 0 else l.getD k.toNat 0
theorem aL1 (l:List Rat) (k:Nat):atR l (k:Int)=l.getD k 0:=by
 unfold atR;rw[if_neg (by omega),Int.toNat_natCast]
theorem dI {l:List Rat} {k:Nat} (h:l.length<=k):l.getD k 0=0:=by
 rw[List.getD_eq_getElem?_getD,List.getElem?_eq_none h];rfl
def aK (l:List Rat):Rat:=l.getD (l.length-1) 0
theorem aTy (l:List Rat):atR l ((l.length:Int)-1)=aK l:=by
 unfold atR aK;by_cases h:l.length=0
 ·obtain rfl:=List.eq_nil_of_length_eq_zero h;rfl
 ·rw[if_neg (by omega),show ((l.length:Int)-1).toNat=l.length-1 by omega]
theorem aTt {a:Rat}:a.num=0 ↔ a=0:=Rat.num_eq_zero
theorem uH {a:Rat}:(bB a.num 0=0) ↔ a=0:=by
 rw[<- aTt];generalize a.num=z;unfold bB;split
 ·exact⟨fun h=>absurd h (by decide),fun h=>by omega⟩
 ·split
  ·exact⟨fun h=>absurd h (by decide),fun h=>by omega⟩
  ·exact⟨fun _=>by omega,fun _=>rfl⟩
def eI (p q:List Rat):List Rat:=aJ (tab (fun k=>p.getD k 0+q.getD k 0) (max p.length q.length))
def fC (p q:List Rat):List Rat:=aJ (tab (fun k=>p.getD k 0-q.getD k 0) (max p.length q.length))
def aI (p:List Rat) (a:Rat):List Rat:=aJ (tab (fun k=>p.getD k 0*a) p.length)
def bO (p:List Rat):List Rat:=aJ (tab (fun k=>p.getD (k+1) 0*((k+1:Nat):Rat)) (p.length-1))
end Vc
end Go.Proofs.YtjmbkipbmbnhjaaGreat

namespace Go.Proofs.YtjmbkipbmbnhjaaGreat
open Go.RowKit
open Go.Lib (hid)
open Dg Zn
namespace Vc
set_option maxRecDepth 100000
theorem bG:Tryz.prog.underlying 24=some (.slice 31):=by kernel_rfl
theorem cR:dG Tryz.prog 24 none:=dG.one (by kernel_rfl) (by kernel_rfl)
theorem aMu {a:Rat} {j k:Nat} (h:a=0) (hk:j<=k):∀ L ρ w v,(SA.d (Dm.rt 0 0 j)).is L ρ w v->(AV.one (RT a k)).is L ρ w v:=by
 subst h;exact dZ (by decide) (by decide) hk
theorem oW (l:List Rat) (K:Nat) (hl:l.length<=1000000):aC Tryz.prog 51 [PL l K] (.one (.v (.int .i64 ((l.length:Int)-1)))):=by
 refine aC.of (n:=6) Tryz.func51 rfl rfl rfl rfl rfl fun cx hfr=>?_;refine sr rfl ?_;refine xn ?_;refine RV.done (sr rfl ?_);refine xm ?_;refine p1 (bY bL bG) ?_;refine p1 (eD (c:=(l.length:Int)-1) (by rw[cF (by omega) (by omega)]) rfl rfl bd rfl rfl) ?_;refine xn ?_;refine RV.done ?_;refine CV.ret ?_;exact aW rfl (.inr rfl) rfl cH
theorem aXi (l:List Rat) (K:Nat) (k:Int):aC Tryz.prog 132 [PL l K,.v (.int .i64 k)] (.one (RT (atR l k) K)):=by
 refine aC.of (n:=18) Tryz.func132 rfl rfl rfl rfl rfl fun cx hfr=>?_;refine sr rfl ?_;refine p2 (aV (i:=0) bS) ?_;refine RV.done ?_;refine CV.seq ?_;refine sr rfl ?_;refine xm ?_;refine p1 (eE) ?_;refine xm ?_;refine RV.bool (fun hn=>?_) (fun hn=>?_)
 ·refine xk ?_;refine xk ?_;refine xk ?_;refine xk ?_;refine p1 (cI) ?_;refine RV.done ?_;refine CV.yes rfl ?_;refine sr rfl ?_;refine p1 (tL) ?_;refine p1 (aP (aB).2) ?_;refine RV.done ?_;refine CV.ret ?_;exact aW rfl (.inr rfl) ⟨_,_,_,_,_,rfl,rfl,rfl,aB⟩ (aMu (by unfold atR; rw[if_pos (of_decide_eq_true hn)]) (Nat.zero_le _))
 ·obtain⟨j,rfl⟩:∃ j:Nat,k=(j:Int):=⟨k.toNat,by have:=of_decide_eq_false hn; omega⟩
  refine y1 (bU (.inl rfl)) ?_;refine y1 (bU (.inl rfl)) ?_;refine y1 (bY bL bG) ?_;refine y1 (xA) ?_;refine p1 (cN) ?_;refine RV.done ?_;refine CV.cond rfl (fun hc=>?_) (fun hc=>?_)
  ·refine sr rfl ?_;refine p1 (tL) ?_;refine p1 (aP (aB).2) ?_;refine RV.done ?_;refine CV.ret ?_;exact aW rfl (.inr rfl) ⟨_,_,_,_,_,rfl,rfl,rfl,aB⟩ (aMu (by have:=of_decide_eq_true hc; rw[aL1,dI (by omega)]) (Nat.zero_le _))
  ·refine CV.skip ?_;refine sr rfl ?_;refine xm ?_;refine xm ?_;refine p1 (dT (k:=some 4) (i:=j) (gE (by have:=of_decide_eq_false hc; omega)) bG cS rfl rfl bd rfl rfl (by decide)) ?_;refine p1 (cD aB) ?_;refine p1 (aP (aB).2) ?_;refine RV.done ?_;refine CV.ret ?_;exact aW rfl (.inr rfl) ⟨_,_,_,_,_,rfl,rfl,rfl,aB⟩ (lM (by rw[aL1]))
theorem wN (l:List Rat) (K:Nat) (hl:l.length<=1000000):aC Tryz.prog 125 [PL l K] (.one (RT (aK l) K)):=by
 refine aC.of (n:=7) Tryz.func125 rfl rfl rfl rfl rfl fun cx hfr=>?_;refine sr rfl ?_;refine p2 (aV (i:=0) bS) ?_;refine RV.done (sr rfl ?_);refine xm ?_;refine xm ?_;refine xc (oW _ _ hl) Tryz.func51 (xa rfl) hfr ?_;refine xc (aXi _ _ _) Tryz.func132 (xb rfl rfl) hfr ?_;refine p1 (aP (aB).2) ?_;refine RV.done ?_;refine CV.ret ?_;exact aW rfl (.inr rfl) ⟨_,_,_,_,_,rfl,rfl,rfl,aB⟩ (lM (by rw[aTy]))
theorem aP4 (l:List Rat) (K:Nat) (hl:l.length<=1000000):aC Tryz.prog 115 [PL l K] (.one (.v (.bool (decide (l≠[]/\aK l=0))))):=by
 refine aC.of (n:=12) Tryz.func115 rfl rfl rfl rfl rfl fun cx hfr=>?_;refine sr rfl ?_;refine xn ?_;refine RV.done (sr rfl ?_);refine xm ?_;refine p1 (bY bL eS) ?_;refine p1 (iC) ?_;refine xm ?_;refine RV.bool (fun hn=>?_) (fun hn=>?_)
 ·refine y1 (bU (.inl rfl)) ?_;refine y1 (aU (wN _ _ hl) rfl rfl bd Tryz.func125 rfl rfl (xa rfl) rfl hfr rfl) ?_;refine y1 (aU (zH _ _) rfl rfl bd Tryz.func98 rfl rfl (xa rfl) rfl hfr rfl) ?_;refine y1 (dF) ?_;refine p1 (cI) ?_;refine xn ?_;refine RV.done ?_;refine CV.ret ?_;have h1:l≠[]:=List.length_pos_iff.1 (by have:=of_decide_eq_true hn; omega);exact aW rfl (.inr rfl) rfl (fV (by rw[Bool.eq_iff_iff,beq_iff_eq,decide_eq_true_eq,uH]; exact⟨fun h=>⟨h1,h⟩,fun h=>h.2⟩))
 ·refine xk ?_;refine xk ?_;refine xk ?_;refine xk ?_;refine p1 (cN) ?_;refine xn ?_;refine RV.done ?_;refine CV.ret ?_;have h1:l=[]:=List.eq_nil_of_length_eq_zero (by have:=of_decide_eq_false hn; omega);exact aW rfl (.inr rfl) rfl (fV (by symm; rw[decide_eq_false_iff_not]; exact fun h=>h.1 h1))
section
variable {f : FuncId} {fn : Func} {caps : List (SA Dm)} (g : Nat -> Rat) (K N : Nat) (z : Int) (hz : N = z.toNat) (hN : z <= 1000000) (hf : Tryz.prog.funcs[f]? = some fn) (hname : (fn.name == "runtime.NumGoroutine") = false) (hb : fn.body.isSome = true) (hcon : ∀ k, k < N -> aC Tryz.prog f (.v (.int .i64 (k : Int)) :: caps) (.one (RT (g k) K)))
include hz hN hf hname hb hcon
theorem wM:aC Tryz.prog 77 [.v (.int .i64 z),.d (Dm.gen (qV f caps))] (.one (PL (aJ (tab g N)) K)):=by
 refine aC.of (n:=34) Tryz.func77 rfl rfl rfl rfl rfl fun cx hfr=>?_;refine sr rfl ?_;refine xn ?_;refine RV.done (sr rfl ?_);refine xm ?_;refine p1 (rZ (c:=(N:Int)) (by split<;>omega) rfl rfl bd rfl rfl) ?_;refine p2 (aAd (r:=10) (Nat.le_refl _) (by omega) (by omega) bG mH rfl rfl rfl rfl bd rfl rfl rfl rfl rfl) ?_;refine xn ?_;refine RV.done (sr rfl ?_);refine xn ?_;refine RV.done ?_;refine CV.seq ?_;refine sr rfl ?_;refine xm ?_;refine xm ?_;refine RV.done ?_;refine CV.block ?_;refine CV.loop (X:={k:Nat // k<=N}) (fun k=>[(.s 12,.av (.one (.v (.int .i64 (k.1:Int))))),(.s 11,.av (.one (.v (.int .i64 z)))),(.s 5,.av (.one (.sl 10 N))),(.b 10,.row 31 (some 4) (jT g K N k.1)),(.s 6,.av (.one (.v (.int .i64 ((aJ (tab g k.1)).length:Int))))),(.s 1,.av (.one (.d (Dm.gen (qV f caps)))))]) (fun k=>N-k.1) ⟨0,Nat.zero_le _⟩ (bQ.mk ⟨aF _,aF _,aF _,gS aG0,aF _,aF _,trivial⟩ rfl rfl) (fun k=>?_);obtain⟨k,hk⟩:=k;simp only;refine sr rfl ?_;refine p1 (eE) ?_;refine RV.done ?_;refine CV.seq ?_;refine CV.cond rfl (fun hc=>?_) (fun hc=>?_)
 ·have hlt:k<N:=(by have:=of_decide_eq_true hc; omega)
  refine CV.skip ?_;refine CV.seq ?_;refine CV.block ?_;refine sr rfl ?_;refine xm ?_;refine xn ?_;refine RV.done (sr rfl ?_);refine xm ?_;refine xm ?_;refine xm ?_;refine xm ?_;refine p1 (wD (sas:=[.v (.int .i64 (k:Int))]) (hcon k hlt) hf hname hb rfl rfl bd rfl (xa rfl) rfl hfr rfl) ?_;refine p1 (oC (i:=k) hlt (by rw[vP]; exact Nat.le_refl _) bG cS rfl rfl bd rfl rfl rfl) ?_;refine p1 (tI (i:=k) (by rw[vP]; exact hlt) (by show 0<4; decide) cS (.inl rfl) rfl rfl rfl rfl rfl rfl rfl rfl rfl) ?_;refine RV.done ?_;refine CV.seq ?_;rw[aHy];refine CV.region rfl (fun h=>nomatch h) ?_;refine xm ?_;refine xm ?_;refine p1 (oC (i:=k) hlt (by rw[vP]; exact Nat.le_refl _) bG cS rfl rfl bd rfl rfl rfl) ?_;refine p1 (uD (i:=k) (aTi hlt) rfl aB (by show 0<4; decide) rfl rfl bd rfl rfl) ?_;refine xc (zH _ _) Tryz.func98 (xa rfl) hfr ?_;refine p1 (uQ) ?_;refine RV.done ?_;refine CV.cond rfl (fun h0=>?_) (fun h0=>?_)
  ·refine CV.region rfl (fun h=>nomatch h) ?_;refine xm ?_;refine p1 (cU (c:=((k+1:Nat):Int)) (by rw[cF (by omega) (by omega)]; omega) rfl rfl bd rfl rfl) ?_;refine xn ?_;refine RV.done ?_;refine CV.region rfl (fun h=>nomatch h) ?_;refine p1 (cU (c:=((k+1:Nat):Int)) (by rw[cF (by omega) (by omega)]; omega) rfl rfl bd rfl rfl) ?_;refine xm ?_;refine RV.done ?_;have hne:g k≠0:=(fun e=>by rw[bne_iff_ne] at h0; exact h0 (uH.2 e))
   exact⟨⟨k+1,hlt⟩,bQ.mk ⟨aF _,aF _,aF _,aF _,zU (by show (XV.av (.one (.v (.int .i64 ((k+1:Nat):Int)))):XV Dm)=.av (.one (.v (.int .i64 ((aJ (tab g (k+1))).length:Int)))); rw[aJb,sT,if_neg hne,List.length_append,iA]; rfl),aF _,trivial⟩ rfl rfl,by show N-(k+1)<N-k; omega⟩
  ·refine CV.skip ?_;refine CV.region rfl (fun h=>nomatch h) ?_;refine p1 (cU (c:=((k+1:Nat):Int)) (by rw[cF (by omega) (by omega)]; omega) rfl rfl bd rfl rfl) ?_;refine xm ?_;refine RV.done ?_;have he:g k=0:=(uH.1 (by rw[bne_eq_false_iff_eq] at h0; exact h0))
   exact⟨⟨k+1,hlt⟩,bQ.mk ⟨aF _,aF _,aF _,aF _,zU (by show (XV.av (.one (.v (.int .i64 ((aJ (tab g k)).length:Int)))):XV Dm)=.av (.one (.v (.int .i64 ((aJ (tab g (k+1))).length:Int)))); rw[aJb,sT,if_pos he]),aF _,trivial⟩ rfl rfl,by show N-(k+1)<N-k; omega⟩
 ·refine CV.exit ?_;refine CV.seq ?_;have hkN:k=N:=(by have:=of_decide_eq_false hc; omega)
  subst hkN;rw[aHz,wH];refine nX (r:=10) (t:=5) (G:=Dm.gen (cM (some 4) (bV (tab g k) K))) (cx.bw hfr) rfl rfl (by rw[bL,iA]) rfl rfl (dS _ _) (lC _ _) ?_;refine CV.region rfl (fun h=>nomatch h) ?_;refine xm ?_;refine xm ?_;refine xm ?_;refine p1 (sA (k:=some 4) (l':=bV (aJ (tab g k)) K) none (some (aJ (tab g k)).length) (some (aJ (tab g k)).length) (by show ((bV (tab g k) K).take (aJ (tab g k)).length).drop 0=_; rw[List.drop_zero,aDd,<- aCa]) (by decide) (Nat.zero_le _) (Nat.le_refl _) (by show (aJ (tab g k)).length<=(bV (tab g k) K).length; rw[bL]; exact jK _) (fun h=>nomatch h) bG cS rfl rfl bd rfl trivial rfl rfl) ?_;refine xn ?_;refine RV.done ?_;refine CV.ret ?_;exact aW rfl (.inr rfl) rfl cH
end
abbrev fI (l:List Rat) (K:Nat):SA Dm:=.d (Dm.gen (pG none (PL l K)))
abbrev vI (a:Rat) (K:Nat):SA Dm:=.d (Dm.gen (pG (some 4) (RT a K)))
abbrev pI (z:Int):SA Dm:=.d (Dm.gen (pG none (.v (.int .i64 z))))
theorem aQs (p:List Rat) (a:Rat) (j K k:Nat) (hj:j<=10000000) (hK:K<=10000000) (hk:k<p.length):aC Tryz.prog 86 [.v (.int .i64 (k:Int)),fI p j,vI a K] (.one (RT (p.getD k 0*a) (3*(j+K)+20))):=by
 refine aC.of (n:=11) Tryz.func86 rfl rfl rfl rfl rfl fun cx hfr=>?_;refine sr rfl ?_;refine p2 (aV (i:=0) bS) ?_;refine RV.done ?_;refine CV.seq ?_;refine CV.region rfl (fun _=>by kernel_rfl) ?_;refine p1 (cD cR) ?_;refine xm ?_;refine p1 (dT (k:=some 4) (i:=k) (gE hk) bG cS) ?_;refine p1 (cD aB) ?_;refine p1 (cD aB) ?_;refine xc (oA _ _ _ _ hj hK) Tryz.func87 (xb rfl rfl) hfr ?_;refine p1 (aP (aB).2) ?_;refine bP (by kernel_rfl) ?_;refine CV.ret ?_;exact aW rfl (.inr rfl) ⟨_,_,_,_,_,rfl,rfl,rfl,aB⟩ cH
theorem iS (p:List Rat) (a:Rat) (j K:Nat) (hj:j<=10000000) (hK:K<=10000000) (hp:p.length<=1000000):aC Tryz.prog 38 [PL p j,RT a K] (.one (PL (aI p a) (3*(j+K)+20))):=by
 refine aC.of (n:=9) Tryz.func38 rfl rfl rfl rfl rfl fun cx hfr=>?_;refine sr rfl ?_;refine p1 (jO) ?_;refine p1 (jO) ?_;refine xn ?_;refine RV.done (sr rfl ?_);refine p1 (cD cR) ?_;refine p1 (bY bL bG) ?_;refine p1 (rY (caps:=[.tmp 2,.tmp 3]) (ss:=[_,_]) rfl rfl bd (xb rfl rfl) rfl) ?_;refine xd rfl (wM (fun k=>p.getD k 0*a) (3*(j+K)+20) p.length (p.length:Int) (by omega) (by omega) Tryz.func86 rfl rfl (caps:=[fI p j,vI a K]) (fun k hk=>aQs p a j K k hj hK hk)) Tryz.func77 (xb rfl rfl) hfr ?_;refine xn ?_;refine RV.done ?_;refine CV.ret ?_;exact aW rfl (.inr rfl) rfl cH
theorem aQi (k:Nat):Rat.divInt ((k:Nat):Int) 1=((k:Nat):Rat):=by
 have h:=aB3 ((k:Nat):Int);refine Rat.ext ?_ ?_
 ·rw[show (Rat.divInt ((k:Nat):Int) 1).num=(k:Int) by exact h.1];rfl
 ·rw[show (Rat.divInt ((k:Nat):Int) 1).den=1 by have:=h.2; omega];rfl
theorem aPl (p:List Rat) (j k:Nat) (hj:j<=10000000) (hk:k+1<p.length) (hp:p.length<=1000000):aC Tryz.prog 136 [.v (.int .i64 (k:Int)),fI p j] (.one (RT (p.getD (k+1) 0*((k+1:Nat):Rat)) (3*(j+6)+20))):=by
 refine aC.of (n:=13) Tryz.func136 rfl rfl rfl rfl rfl fun cx hfr=>?_;refine sr rfl ?_;refine p2 (aV (i:=0) bS) ?_;refine RV.done ?_;refine CV.seq ?_;refine CV.region rfl (fun _=>by kernel_rfl) ?_;refine p1 (cD cR) ?_;refine xm ?_;refine p1 (cU (c:=((k+1:Nat):Int)) (by rw[cF (by omega) (by omega)]; omega) rfl rfl bd rfl rfl) ?_;refine p1 (dT (k:=some 4) (i:=k+1) (gE hk) bG cS) ?_;refine p1 (cD aB) ?_;refine xm ?_;refine p1 (cU (c:=((k+1:Nat):Int)) (by rw[cF (by omega) (by omega)]; omega) rfl rfl bd rfl rfl) ?_;refine xd rfl (pM _ _ (by omega) (by omega) (by decide) (by decide)) Tryz.func57 (xb rfl rfl) hfr ?_;refine xd rfl (oA _ _ _ _ hj (by decide)) Tryz.func87 (xb rfl rfl) hfr ?_;refine p1 (aP (aB).2) ?_;refine bP (by kernel_rfl) ?_;refine CV.ret ?_;exact aW rfl (.inr rfl) ⟨_,_,_,_,_,rfl,rfl,rfl,aB⟩ (lM (by rw[aQi]))
theorem aGr (p:List Rat) (j:Nat) (hj:j<=10000000) (hp:p.length<=1000000):aC Tryz.prog 96 [PL p j] (.one (PL (bO p) (3*(j+6)+20))):=by
 refine aC.of (n:=7) Tryz.func96 rfl rfl rfl rfl rfl fun cx hfr=>?_;refine sr rfl ?_;refine p1 (jO) ?_;refine xn ?_;refine RV.done (sr rfl ?_);refine p1 (cD cR) ?_;refine xc (oW _ _ hp) Tryz.func51 (xa rfl) hfr ?_;refine p1 (rY (caps:=[.tmp 1]) (ss:=[_]) rfl rfl bd (xa rfl) rfl) ?_;refine xd rfl (wM (fun k=>p.getD (k+1) 0*((k+1:Nat):Rat)) (3*(j+6)+20) (p.length-1) ((p.length:Int)-1) (by omega) (by omega) Tryz.func136 rfl rfl (caps:=[fI p j]) (fun k hk=>aPl p j k hj (by omega) hp)) Tryz.func77 (xb rfl rfl) hfr ?_;refine xn ?_;refine RV.done ?_;refine CV.ret ?_;exact aW rfl (.inr rfl) rfl cH
def fE (p q:List Rat) (m:Rat):List Rat:=aJ (tab (fun k=>if k<p.length-q.length then p.getD k 0 else p.getD k 0-m*q.getD (k-(p.length-q.length)) 0) (p.length-1))
theorem aPa (p q:List Rat) (m:Rat) (j i K k s:Nat) (hk:k<p.length) (hs:k<s):aC Tryz.prog 151 [.v (.int .i64 (k:Int)),pI (s:Int),fI p j,vI m i,fI q K] (.one (RT (p.getD k 0) j)):=by
 refine aC.of (n:=27) Tryz.func151 rfl rfl rfl rfl rfl fun cx hfr=>?_;refine sr rfl ?_;refine p2 (aV (i:=0) bS) ?_;refine RV.done ?_;refine CV.seq ?_;refine sr rfl ?_;refine xm ?_;refine p1 (cD iB) ?_;refine p1 (aLd (r:=true) (by rw[decide_eq_true_eq]; omega) rfl rfl bd rfl rfl) ?_;refine RV.done ?_;refine CV.yes rfl ?_;refine sr rfl ?_;refine p1 (cD cR) ?_;refine xm ?_;refine p1 (dT (k:=some 4) (i:=k) (gE hk) bG cS) ?_;refine p1 (cD aB) ?_;refine p1 (aP (aB).2) ?_;refine RV.done ?_;refine CV.ret ?_;exact aW rfl (.inr rfl) ⟨_,_,_,_,_,rfl,rfl,rfl,aB⟩ cH
theorem aO9 (p q:List Rat) (m:Rat) (j i K k s:Nat) (hj:j<=1000000) (hi:i<=1000000) (hK:K<=1000000) (hk:k<p.length) (hs:¬ k<s) (hq:k-s<q.length) (hs2:s<=1000000) (hp:p.length<=1000000):aC Tryz.prog 151 [.v (.int .i64 (k:Int)),pI (s:Int),fI p j,vI m i,fI q K] (.one (RT (p.getD k 0-m*q.getD (k-s) 0) (3*(j+(3*(i+K)+20))+20))):=by
 refine aC.of (n:=27) Tryz.func151 rfl rfl rfl rfl rfl fun cx hfr=>?_;refine sr rfl ?_;refine p2 (aV (i:=0) bS) ?_;refine RV.done ?_;refine CV.seq ?_;refine sr rfl ?_;refine xm ?_;refine p1 (cD iB) ?_;refine p1 (aLd (r:=false) (by rw[decide_eq_false_iff_not]; omega) rfl rfl bd rfl rfl) ?_;refine RV.done ?_;refine CV.no rfl ?_;refine CV.skip ?_;refine CV.seq ?_;refine CV.region rfl (fun _=>by kernel_rfl) ?_;refine p1 (cD cR) ?_;refine xm ?_;refine p1 (dT (k:=some 4) (i:=k) (gE hk) bG cS) ?_;refine p1 (cD aB) ?_;refine p1 (cD aB) ?_;refine p1 (cD cR) ?_;refine xm ?_;refine p1 (cD iB) ?_;refine p1 (eD (c:=((k-s:Nat):Int)) (by rw[cF (by omega) (by omega)]; omega) rfl rfl bd rfl rfl) ?_;refine p1 (dT (k:=some 4) (i:=k-s) (gE hq) bG cS) ?_;refine p1 (cD aB) ?_;refine xd rfl (oA _ _ _ _ (by omega) (by omega)) Tryz.func87 (xb rfl rfl) hfr ?_;refine xd rfl (aUs _ _ _ _ (by omega) (by omega)) Tryz.func152 (xb rfl rfl) hfr ?_;refine p1 (aP (aB).2) ?_;refine bP (by kernel_rfl) ?_;refine CV.ret ?_;exact aW rfl (.inr rfl) ⟨_,_,_,_,_,rfl,rfl,rfl,aB⟩ cH
theorem aPb (p q:List Rat) (m:Rat) (j i K k s:Nat) (hj:j<=1000000) (hi:i<=1000000) (hK:K<=1000000) (hk:k<p.length) (hq:k<s\/k-s<q.length) (hs2:s<=1000000) (hp:p.length<=1000000):aC Tryz.prog 151 [.v (.int .i64 (k:Int)),pI (s:Int),fI p j,vI m i,fI q K] (.one (RT (if k<s then p.getD k 0 else p.getD k 0-m*q.getD (k-s) 0) (3*(j+(3*(i+K)+20))+20))):=by
 by_cases h:k<s
 ·rw[if_pos h];exact(aPa p q m j i K k s hk h).mono (fun _ _ _ _ h=>h) (dZ rfl rfl (by omega))
 ·rw[if_neg h];exact aO9 p q m j i K k s hj hi hK hk h (hq.resolve_left h) hs2 hp
theorem aGz (p q:List Rat) (m:Rat) (j i K:Nat) (hj:j<=1000000) (hi:i<=1000000) (hK:K<=1000000) (hp:p.length<=1000000) (hqp:q.length<=p.length):aC Tryz.prog 129 [PL p j,PL q K,RT m i] (.one (PL (fE p q m) (3*(j+(3*(i+K)+20))+20))):=by
 refine aC.of (n:=17) Tryz.func129 rfl rfl rfl rfl rfl fun cx hfr=>?_;refine sr rfl ?_;refine p1 (jO) ?_;refine p1 (jO) ?_;refine p1 (jO) ?_;refine xn ?_;refine RV.done (sr rfl ?_);refine p1 (cD cR) ?_;refine p1 (bY bL bG) ?_;refine p1 (cD cR) ?_;refine p1 (bY bL bG) ?_;refine p1 (eD (c:=((p.length-q.length:Nat):Int)) (by rw[cF (by omega) (by omega)]; omega) rfl rfl bd rfl rfl) ?_;refine lI (aS.plain (aH8 (r:=7) (k:=none) aSz rfl rfl rfl bd rfl rfl rfl) rfl) ?_;refine p1 (tI (i:=0) (by decide) (by show 0<1; decide) sG (.inr rfl) rfl rfl rfl rfl rfl rfl rfl rfl rfl) ?_;refine RV.done ?_;refine CV.seq ?_;refine aHl (r:=7) (t:=7) (cx.bw hfr) rfl rfl rfl rfl ?_;refine CV.kp [] rfl rfl ?_;refine CV.region rfl (fun h=>nomatch h) ?_;refine p1 (cD cR) ?_;refine xc (oW _ _ hp) Tryz.func51 (xa rfl) hfr ?_;refine p1 (rY (caps:=[.tmp 7,.tmp 3,.tmp 5,.tmp 4]) (ss:=[_,_,_,_]) rfl rfl bd (.cons rfl cP.any (.cons rfl cP.any (xb rfl rfl))) rfl) ?_;refine xd rfl (wM (fun k=>if k<p.length-q.length then p.getD k 0 else p.getD k 0-m*q.getD (k-(p.length-q.length)) 0) (3*(j+(3*(i+K)+20))+20) (p.length-1) ((p.length:Int)-1) (by omega) (by omega) Tryz.func151 rfl rfl (caps:=[pI ((p.length-q.length:Nat):Int),fI p j,vI m i,fI q K]) (fun k hk=>aPb p q m j i K k (p.length-q.length) hj hi hK (by omega) (by omega) (by omega) hp)) Tryz.func77 (xb rfl rfl) hfr ?_;refine xn ?_;refine RV.done ?_;refine CV.ret ?_;exact aW rfl (.inr rfl) rfl cH
theorem aHv (p q:List Rat) (j K:Nat) (hj:j<=1000000) (hK:K<=1000000) (hp:p.length<=1000000) (hq:q.length<=1000000):aC Tryz.prog 128 [PL p j,PL q K] (.one (RT (aK p/aK q) (3*(j+K)+40))):=by
 refine aC.of (n:=10) Tryz.func128 rfl rfl rfl rfl rfl fun cx hfr=>?_;refine sr rfl ?_;refine p2 (aV (i:=0) bS) ?_;refine RV.done (sr rfl ?_);refine xm ?_;refine xc (wN _ _ hp) Tryz.func125 (xa rfl) hfr ?_;refine xm ?_;refine xc (wN _ _ hq) Tryz.func125 (xa rfl) hfr ?_;refine xc (pB _ _ _ _ hj hK) Tryz.func53 (xb rfl rfl) hfr ?_;refine p1 (aP (aB).2) ?_;refine RV.done ?_;refine CV.ret ?_;exact aW rfl (.inr rfl) ⟨_,_,_,_,_,rfl,rfl,rfl,aB⟩ cH
theorem aGn (a:Rat) (K:Nat) (hK:K<=1000000):aC Tryz.prog 127 [RT a K] (.one (RT (1/a) (3*(6+K)+40))):=by
 refine aC.of (n:=6) Tryz.func127 rfl rfl rfl rfl rfl fun cx hfr=>?_;refine sr rfl ?_;refine p2 (cG (i:=0)) ?_;refine p2 (aV (i:=1) bS) ?_;refine RV.done ?_;refine CV.seq ?_;refine CV.region rfl (fun _=>by kernel_rfl) ?_;refine xd rfl (pM _ _ (by decide) (by decide) (by decide) (by decide)) Tryz.func57 (xb rfl rfl) hfr ?_;refine p1 (aG aB) ?_;refine xd rfl (pB _ _ _ _ (by decide) hK) Tryz.func53 (xb rfl rfl) hfr ?_;refine p1 (aP (aB).2) ?_;refine bP (by kernel_rfl) ?_;refine CV.ret ?_;exact aW rfl (.inr rfl) ⟨_,_,_,_,_,rfl,rfl,rfl,aB⟩ (lM (by rw[show Rat.divInt 1 1=1 from by decide]))
def cL (p:List Rat):List Rat:=aI p (1/aK p)
theorem aH9 (p:List Rat) (K:Nat) (hK:K<=1000000) (hp:p.length<=1000000):aC Tryz.prog 82 [PL p K] (.one (PL (cL p) (3*(K+(3*(6+K)+40))+20))):=by
 refine aC.of (n:=8) Tryz.func82 rfl rfl rfl rfl rfl fun cx hfr=>?_;refine sr rfl ?_;refine xn ?_;refine RV.done (sr rfl ?_);refine xm ?_;refine xm ?_;refine xc (wN _ _ hp) Tryz.func125 (xa rfl) hfr ?_;refine xc (aGn _ _ hK) Tryz.func127 (xa rfl) hfr ?_;refine xd rfl (iS _ _ _ _ (by omega) (by omega) hp) Tryz.func38 (xb rfl rfl) hfr ?_;refine xn ?_;refine RV.done ?_;refine CV.ret ?_;exact aW rfl (.inr rfl) rfl cH
/-! Sizes. -/
def aD (l:List Rat) (B:Nat):Bool:=l.all fun a=>decide (len a.num<=B)&&decide (len (qd a)<=B)
theorem qB {a:Rat} {B:Nat} (h:aD [a] B=true):len a.num<=B/\len (qd a)<=B:=by
 simpa[aD] using h
theorem aAa {l:List Rat} {B:Nat} (h:aD l B=true) {a:Rat} (ha:a∈l):len a.num<=B/\len (qd a)<=B:=by
 have:=List.all_eq_true.1 h a ha;simpa using this
theorem aNf {a:Rat} {K B:Nat} (h:len a.num<=B/\len (qd a)<=B) {w:World} {v:Value} (hv:(RT a K).at w v):(RT a B).at w v:=by
 obtain⟨s,t,h1,h2,h3,_,_⟩:=hv;exact⟨s,t,h1,h2,h3,h.1,h.2⟩
theorem aXr {a:Rat} {K B:Nat} (h:aD [a] B=true):∀ L ρ w v,(RT a K).is L ρ w v->(RT a B).is L ρ w v:=fun _ _ _ _ hv w' hw=>aNf (qB h) (hv w' hw)
inductive gL {α β:Type} (R:α -> β->Prop):List α->List β->Prop where
 | nil:gL R [] []
 | cons {a:α} {b : β} {l:List α} {m:List β}:R a b->gL R l m->gL R (a::l) (b::m)
theorem gL.length_eq {α β:Type} {R:α -> β->Prop} {l:List α} {m:List β} (h:gL R l m):l.length=m.length:=by
 induction h with
 | nil=>rfl
 | cons _ _ ih=>rw[List.length_cons,List.length_cons,ih]
theorem dY {a:Rat} {K B:Nat} (h:aD [a] B=true):∀ L ρ w v,(AV.one (RT a K)).is L ρ w v->(AV.one (RT a B)).is L ρ w v:=aXr h
theorem aM7 {w:World} {k:Option Nat}:∀ {l l':List (SA Dm)} {cs:List Value},gL (fun s s':SA Dm=>∀ w v,s.at w v->s'.at w v) l l'->dB w k l cs->dB w k l' cs
 | [],[],_,_,h=>h
 | _::_,_::_,_,.cons h1 h2,⟨p,r,v,e1,e2,e3,e4⟩=>⟨p,r,v,e1,e2,h1 _ _ e3,aM7 h2 e4⟩
theorem aMs {k:Option Nat} {l l':List (SA Dm)} (h:gL (fun s s':SA Dm=>∀ w v,s.at w v->s'.at w v) l l'):∀ L ρ w v,(SA.d (Dm.gen (cM k l))).is L ρ w v->(SA.d (Dm.gen (cM k l'))).is L ρ w v:=by
 intro L ρ w v hv w' hw;have hl:=h.length_eq;obtain⟨ao,cap,rfl,h1,h2⟩:=hv w' hw;refine⟨ao,cap,by rw[hl],by rw[<- hl]; exact h1,fun hp=>?_⟩;obtain⟨b,off,e,cs,h3,h4⟩:=h2 (by rw[hl]; exact hp);exact⟨b,off,e,cs,aM7 h h3,h4⟩
theorem aXt {l:List Rat} {K B:Nat} (h:aD l B=true):∀ L ρ w v,(PL l K).is L ρ w v->(PL l B).is L ρ w v:=by
 refine aMs ?_;have:∀ m:List Rat,(∀ a∈m,len a.num<=B/\len (qd a)<=B)->gL (fun s s':SA Dm=>∀ w v,s.at w v->s'.at w v) (bV m K) (bV m B):=by
  intro m
  induction m with
  | nil=>intro _; exact .nil
  | cons a m ih=>intro hm; exact .cons (fun w v hv=>aNf (hm a List.mem_cons_self) hv) (ih fun x hx=>hm x (List.mem_cons_of_mem _ hx))
 exact this l fun a ha=>aAa h ha
theorem bI {l:List Rat} {K B:Nat} (h:aD l B=true):∀ L ρ w v,(AV.one (PL l K)).is L ρ w v->(AV.one (PL l B)).is L ρ w v:=aXt h
theorem aTb (p q:List Rat) (m:Rat):(fE p q m).length<=p.length-1:=by
 unfold fE;refine Nat.le_trans (jK _) ?_;rw[iA];exact Nat.le_refl _
/-! Div. -/
def oQ (u:List (Option Rat)) (B:Nat):List (SA Dm):=u.map fun o=>match o with | none=>.v eR | some a=>RT a B
theorem aCd {u:List (Option Rat)} {B:Nat}:(oQ u B).length=u.length:=by simp[oQ]
theorem aTg {n B:Nat}:List.replicate n (SA.v eR:SA Dm)=oQ (List.replicate n none) B:=by simp[oQ]
theorem aVj {u:List (Option Rat)} {B i:Nat} {a:Rat}:(oQ u B).set i (RT a B)=oQ (u.set i (some a)) B:=by simp[oQ,List.map_set]
theorem aW0 {u:List (Option Rat)} {B:Nat}:∀ L ρ w v,(SA.d (Dm.gen (cM (some 4) (oQ u B)))).is L ρ w v->(PL (u.map fun o=>o.getD 0) B).is L ρ w v:=by
 refine aMs ?_
 induction u with
 | nil=>exact .nil
 | cons o u ih =>
  refine .cons (fun w v hv=>?_) ih;cases o with
  | none =>
   obtain rfl:v=eR:=hv;have h0:(aA (0:Int).natAbs).length<=B:=by rw[show (0:Int).natAbs=0 from rfl,gA]; exact Nat.zero_le _
   exact⟨_,_,rfl,aM.nil (by decide),aM.nil (by decide),h0,h0⟩
  | some a=>exact hv
def kU (B:Nat) (q:List Rat):Nat->List (Option Rat)->List Rat->Option (List (Option Rat) × List Rat)
 | 0,_,_=>none
 | n+1,u,r=>if q.length<=r.length then (if (aD [aK r/aK q] B&&aD (fE r q (aK r/aK q)) B)=true then kU B q n (u.set (r.length-q.length) (some (aK r/aK q))) (fE r q (aK r/aK q)) else none) else some (u,r)
theorem aSg {B n:Nat} {q r:List Rat} {u:List (Option Rat)} {X:List (Option Rat) × List Rat} (h:kU B q n u r=some X) (hl:q.length<=r.length) :
  ∃ m,aD [aK r/aK q] B=true/\aD (fE r q (aK r/aK q)) B=true/\kU B q m (u.set (r.length-q.length) (some (aK r/aK q))) (fE r q (aK r/aK q))=some X:=by
 cases n with
 | zero=>cases h
 | succ n =>
  rw[kU,if_pos hl] at h;split at h
  ·rename_i h2;rw[Bool.and_eq_true] at h2;exact⟨n,h2.1,h2.2,h⟩
  ·cases h
theorem aUe {B n:Nat} {q r:List Rat} {u:List (Option Rat)} {X:List (Option Rat) × List Rat} (h:kU B q n u r=some X) (hl:¬ q.length<=r.length):X=(u,r):=by
 cases n with
 | zero=>cases h
 | succ n =>
  rw[kU,if_neg hl] at h;injection h with h;exact h.symm
def dX (B:Nat) (p q:List Rat):Option (List Rat × List Rat):=if q=[] then some ([],[]) else (kU B q (p.length+2) (List.replicate (p.length+1-q.length) none) p).map fun x=>(x.1.map fun o=>o.getD 0,x.2)
theorem xD {K:Nat}:∀ (L:Nat->Prop) (ρ:aX) (w:World) (v:Value),(SA.v (.slice none 0 0):SA Dm).is L ρ w v->(PL [] K).is L ρ w v:=by
 intro L ρ w v h w' _;obtain rfl:v=_:=h;exact⟨none,0,rfl,⟨Nat.le_refl _,by decide⟩,fun h=>absurd h (Nat.lt_irrefl 0)⟩
theorem aU0 (p:List Rat) (K B:Nat):aC Tryz.prog 134 [PL p K,PL [] B] (.tup [PL [] B,PL [] B]):=by
 refine aC.of (n:=43) Tryz.func134 rfl rfl rfl rfl rfl fun cx hfr=>?_;refine sr rfl ?_;refine xn ?_;refine xn ?_;refine RV.done ?_;refine CV.seq ?_;refine sr rfl ?_;refine xm ?_;refine p1 (bY bL bG) ?_;refine p1 (dF) ?_;refine RV.done ?_;refine CV.cond rfl (fun hc=>?_) (fun hc=>False.elim (by simp at hc));refine sr rfl ?_;refine xn ?_;refine xn ?_;refine RV.done ?_;refine CV.ret ?_;exact sM rfl (.inr rfl) rfl rfl (aLl xD xD)
section
variable (p q:List Rat) (B:Nat) (U:List (Option Rat)) (R:List Rat) (hB:B<=300000) (hp:p.length<=1000000) (hq:q.length<=1000000) (hq0:q≠[]) (h:kU B q (p.length+2) (List.replicate (p.length+1-q.length) none) p=some (U,R))
include hB hp hq hq0 h
theorem aUz:aC Tryz.prog 134 [PL p B,PL q B] (.tup [PL (U.map fun o=>o.getD 0) B,PL R B]):=by
 have hql:0<q.length:=List.length_pos_iff.2 hq0;refine aC.of (n:=43) Tryz.func134 rfl rfl rfl rfl rfl fun cx hfr=>?_;refine sr rfl ?_;refine xn ?_;refine xn ?_;refine RV.done ?_;refine CV.seq ?_;refine sr rfl ?_;refine xm ?_;refine p1 (bY bL bG) ?_;refine p1 (dF) ?_;refine RV.done ?_;refine CV.cond rfl (fun hc=>False.elim (by simp at hc; exact hq0 hc)) (fun hc=>?_);refine CV.skip ?_;refine sr rfl ?_;refine xm ?_;refine p1 (bY bL bG) ?_;refine xm ?_;refine p1 (bY bL bG) ?_;refine p1 (eD (c:=(p.length:Int)-q.length) (by rw[cF (by omega) (by omega)]) rfl rfl bd rfl rfl) ?_;refine p1 (cU (c:=(p.length:Int)-q.length+1) (by rw[cF (by omega) (by omega)]) rfl rfl bd rfl rfl) ?_;refine p1 (rZ (c:=((p.length+1-q.length:Nat):Int)) (by split<;>omega) rfl rfl bd rfl rfl) ?_;refine p2 (aAd (r:=19) (Nat.le_refl _) (by omega) (by omega) bG mH rfl rfl rfl rfl bd rfl rfl rfl rfl rfl) ?_;refine xm ?_;refine xn ?_;refine xn ?_;refine RV.done ?_;refine CV.seq ?_;refine CV.block ?_;refine CV.loop (X:={s:Nat × List (Option Rat) × List Rat // kU B q s.1 s.2.1 s.2.2=some (U,R)/\s.2.1.length=p.length+1-q.length/\s.2.2.length<=p.length}) (fun s=>[(.s 7,.av (.one (PL s.1.2.2 B))),(.s 6,.av (.one (.sl 19 (p.length+1-q.length)))),(.b 19,.row 31 (some 4) (oQ s.1.2.1 B)),(.s 1,.av (.one (PL q B)))]) (fun s=>s.1.2.2.length) ⟨(p.length+2,List.replicate (p.length+1-q.length) none,p),h,by rw[List.length_replicate],Nat.le_refl _⟩ (bQ.mk ⟨aF _,aF _,gS aTg,aF _,trivial⟩ rfl rfl) (fun s=>?_);obtain⟨⟨n,u,r⟩,hs,hu,hr⟩:=s;simp only at hs hu hr |-;refine CV.seq ?_;refine sr rfl ?_;refine xm ?_;refine p1 (bY bL bG) ?_;refine xm ?_;refine p1 (bY bL bG) ?_;refine p1 (xA) ?_;refine RV.done ?_;refine CV.cond rfl (fun hc=>?_) (fun hc=>?_)
 ·have hle:q.length<=r.length:=(by have:=of_decide_eq_true hc; omega)
  obtain⟨m,hs1,hs2,hs3⟩:=aSg hs hle;have hrl:=aTb r q (aK r/aK q);refine CV.skip ?_;refine CV.block ?_;refine sr rfl ?_;refine xm ?_;refine xm ?_;refine xd rfl ((aHv r q B B (by omega) (by omega) (by omega) hq).mono (fun _ _ _ _ h=>h) (dY hs1)) Tryz.func128 (xb rfl rfl) hfr ?_;refine p2 (aV (i:=0) bS) ?_;refine p1 (aP (aB).2) ?_;refine RV.done (sr rfl ?_);refine xm ?_;refine xm ?_;refine p1 (bY bL bG) ?_;refine xm ?_;refine p1 (bY bL bG) ?_;refine p1 (eD (c:=((r.length-q.length:Nat):Int)) (by rw[cF (by omega) (by omega)]; omega) rfl rfl bd rfl rfl) ?_;refine p1 (aG aB) ?_;refine p1 (oC (i:=r.length-q.length) (by omega) (by rw[aCd]; omega) bG cS rfl rfl bd rfl rfl rfl) ?_;refine p1 (tI (i:=r.length-q.length) (by rw[aCd]; omega) (by show 0<4; decide) cS (.inl rfl) rfl rfl rfl rfl rfl rfl rfl rfl rfl) ?_;refine RV.done ?_;refine CV.region rfl (fun h=>nomatch h) ?_;refine xm ?_;refine xm ?_;refine p1 (aG aB) ?_;refine xd rfl ((aGz r q (aK r/aK q) B B B (by omega) (by omega) (by omega) (by omega) hle).mono (fun _ _ _ _ h=>h) (bI hs2)) Tryz.func129 (.cons rfl cP.any (xb rfl rfl)) hfr ?_;refine xn ?_;refine RV.done ?_;exact⟨⟨(m,u.set (r.length-q.length) (some (aK r/aK q)),fE r q (aK r/aK q)),hs3,by rw[List.length_set]; exact hu,by show (fE r q (aK r/aK q)).length<=p.length; omega⟩,bQ.mk ⟨aF _,aF _,gS aVj,aF _,trivial⟩ rfl rfl,by show (fE r q (aK r/aK q)).length<r.length; omega⟩
 ·refine CV.exit ?_;refine CV.seq ?_;have hX:=aUe hs (by have:=of_decide_eq_false hc; omega);obtain⟨rfl,rfl⟩:U=u/\R=r:=(Prod.mk.inj hX)
  refine nX (r:=19) (t:=6) (G:=Dm.gen (cM (some 4) (oQ U B))) (cx.bw hfr) rfl rfl (by rw[aCd]; exact hu.symm) rfl rfl (dS _ _) (lC _ _) ?_;refine CV.region rfl (fun h=>nomatch h) ?_;refine xm ?_;refine xm ?_;refine xn ?_;refine xn ?_;refine RV.done ?_;refine CV.ret ?_;exact sM rfl (.inr rfl) rfl rfl (aLl aW0 (fun _ _ _ _ h=>h))
end
theorem zW (p q:List Rat) (B:Nat) {U R:List Rat} (hB:B<=300000) (hp:p.length<=1000000) (hq:q.length<=1000000) (h:dX B p q=some (U,R)):aC Tryz.prog 134 [PL p B,PL q B] (.tup [PL U B,PL R B]):=by
 unfold dX at h;by_cases h0:q=[]
 ·rw[if_pos h0] at h;injection h with h;obtain⟨rfl,rfl⟩:=Prod.mk.inj h;subst h0;exact aU0 p B B
 ·rw[if_neg h0] at h;obtain⟨⟨u,r⟩,h1,h2⟩:=Option.map_eq_some_iff.1 h;obtain⟨rfl,rfl⟩:=Prod.mk.inj h2;exact aUz p q B u r hB hp hq h0 h1
abbrev wR (z:Int):Rat:=Rat.divInt z 1
theorem w_num (z:Int):(wR z).num=z:=(aB3 z).1
theorem aX5 (z:Int):qd (wR z)=0:=by
 have h:=(aB3 z).2;have h1:(Rat.divInt z 1).den=1:=by omega
 show (if (Rat.divInt z 1).den=1 then (0:Int) else _)=0;rw[if_pos h1]
section
variable {cx:Cx Dm} {n:Nat} {σ:St Dm} {o:Oper} {d:Nat} {x:Operand}
theorem aCe {p:Int} {k:Nat} (ho:o.op=.build 31 #[(0,x)]) (hd:o.dst=some d) (hn:d<n) (hx:opd σ x=.av (.one (.d (.int p k)))):aS Tryz.prog cx n σ o (bF x) [(.s d,.av (.one (RT (wR p) k)))]:=by
 have h:=rI (cx:=cx) ho hd hn hx;show aS _ _ _ _ _ _ [(.s d,.av (.one (.d (Dm.rt (wR p).num (qd (wR p)) k))))];rw[w_num,aX5];exact h
end
theorem aH3 (a:Rat) (K:Nat):aC Tryz.prog 126 [RT a K] (.tup [RT (wR a.num) K,RT (wR (a.den:Int)) (K+3)]):=by
 refine aC.of (n:=10) Tryz.func126 rfl rfl rfl rfl rfl fun cx hfr=>?_;refine sr rfl ?_;refine p2 (cG (i:=0)) ?_;refine p2 (aV (i:=1) bS) ?_;refine p2 (aV (i:=2) bS) ?_;refine RV.done ?_;refine CV.seq ?_;refine CV.region rfl (fun _=>by kernel_rfl) ?_;refine p1 (bJ dK) ?_;refine p1 (bN 0 dJ aL) ?_;refine p1 (aCe rfl rfl bd rfl) ?_;refine p1 (aG aB) ?_;refine xc (gU _ _) Tryz.func102 (xa rfl) hfr ?_;refine p1 (aCe rfl rfl bd rfl) ?_;refine p1 (aP (aB).2) ?_;refine p1 (aP (aB).2) ?_;refine bP (by kernel_rfl) ?_;refine CV.ret ?_;exact sM rfl (.inr rfl) ⟨_,_,_,_,_,rfl,rfl,rfl,aB⟩ ⟨_,_,_,_,_,rfl,rfl,rfl,aB⟩ aEi
def fO (q p:List Rat):Rat:=aK p/aK q
def jD (q p:List Rat):List Rat:=aI p (wR ((fO q p).den:Int))
def mulN (q p:List Rat):List Rat:=fE (jD q p) q (wR (fO q p).num)
def uY (B:Nat) (q p:List Rat):Bool:=(aD [fO q p] B&&aD (jD q p) B)&&(aD (mulN q p) B&&(decide (q.length<=(jD q p).length)&&decide ((mulN q p).length<p.length)))
theorem aJy {B:Nat} {q p:List Rat} (h:uY B q p=true):aD [fO q p] B=true/\aD (jD q p) B=true/\aD (mulN q p) B=true/\q.length<=(jD q p).length/\(mulN q p).length<p.length:=by
 unfold uY at h;rw[Bool.and_eq_true,Bool.and_eq_true,Bool.and_eq_true,Bool.and_eq_true] at h;exact⟨h.1.1,h.1.2,h.2.1,of_decide_eq_true h.2.2.1,of_decide_eq_true h.2.2.2⟩
def kT (B:Nat) (q:List Rat):Nat->List Rat->Option (List Rat)
 | 0,_=>none
 | n+1,p=>if q.length<=p.length then (if uY B q p=true then kT B q n (mulN q p) else none) else some p
theorem aRw {B n:Nat} {q p R:List Rat} (h:kT B q n p=some R) (hl:q.length<=p.length):uY B q p=true/\∃ m,kT B q m (mulN q p)=some R:=by
 cases n with
 | zero=>cases h
 | succ n =>
  rw[kT,if_pos hl] at h;split at h
  ·rename_i h2; exact⟨h2,n,h⟩
  ·cases h
theorem aTu {B n:Nat} {q p R:List Rat} (h:kT B q n p=some R) (hl:¬ q.length<=p.length):R=p:=by
 cases n with
 | zero=>cases h
 | succ n =>
  rw[kT,if_neg hl] at h;injection h with h;exact h.symm
theorem oV (p:List Rat) (a:Rat):(aI p a).length<=p.length:=by
 unfold aI;refine Nat.le_trans (jK _) ?_;rw[iA];exact Nat.le_refl _
section
variable (p q R:List Rat) (B n:Nat) (hB:B<=300000) (hp:p.length<=1000000) (hq:q.length<=1000000) (h:kT B q n p=some R)
include hB hp hq h
theorem aOw:aC Tryz.prog 81 [PL p B,PL q B] (.one (PL R B)):=by
 refine aC.of (n:=26) Tryz.func81 rfl rfl rfl rfl rfl fun cx hfr=>?_;refine sr rfl ?_;refine xn ?_;refine RV.done ?_;refine CV.seq ?_;refine CV.block ?_;refine CV.loop (X:={s:Nat × List Rat // kT B q s.1 s.2=some R/\s.2.length<=p.length}) (fun s=>[(.s 0,.av (.one (PL s.1.2 B))),(.s 1,.av (.one (PL q B)))]) (fun s=>s.1.2.length) ⟨(n,p),h,Nat.le_refl _⟩ (bQ.mk ⟨aF _,aF _,trivial⟩ rfl rfl) (fun s=>?_);obtain⟨⟨n,r⟩,hs,hr⟩:=s;simp only at hs hr |-;refine CV.seq ?_;refine sr rfl ?_;refine xm ?_;refine p1 (bY bL bG) ?_;refine xm ?_;refine p1 (bY bL bG) ?_;refine p1 (xA) ?_;refine RV.done ?_;refine CV.cond rfl (fun hc=>?_) (fun hc=>?_)
 ·have hle:q.length<=r.length:=(by have:=of_decide_eq_true hc; omega)
  obtain⟨hok,m,hs2⟩:=aRw hs hle;obtain⟨o1,o2,o3,o4,o5⟩:=aJy hok;have hsl:=oV r (wR ((fO q r).den:Int));refine CV.skip ?_;refine CV.block ?_;refine sr rfl ?_;refine xm ?_;refine xm ?_;refine xd rfl ((aHv r q B B (by omega) (by omega) (by omega) hq).mono (fun _ _ _ _ h=>h) (dY o1)) Tryz.func128 (xb rfl rfl) hfr ?_;refine xc (aH3 (fO q r) B) Tryz.func126 (xa rfl) hfr ?_;refine xm ?_;refine p1 (dE) ?_;refine p1 (dE) ?_;refine p2 (aV (i:=0) bS) ?_;refine p2 (aV (i:=1) bS) ?_;refine p1 (aP (aB).2) ?_;refine p1 (aP (aB).2) ?_;refine RV.done ?_;refine CV.region rfl (fun _=>by kernel_rfl) ?_;refine xm ?_;refine p1 (aG aB) ?_;refine xd rfl ((iS r (wR ((fO q r).den:Int)) B (B+3) (by omega) (by omega) (by omega)).mono (fun _ _ _ _ h=>h) (bI o2)) Tryz.func38 (xb rfl rfl) hfr ?_;refine xm ?_;refine p1 (aG aB) ?_;refine xd rfl ((aGz (jD q r) q (wR (fO q r).num) B B B (by omega) (by omega) (by omega) (by show (aI r _).length<=_; omega) o4).mono (fun _ _ _ _ h=>h) (bI o3)) Tryz.func129 (.cons rfl cP.any (xb rfl rfl)) hfr ?_;refine xn ?_;refine bP (by kernel_rfl) ?_;exact⟨⟨(m,mulN q r),hs2,by show (mulN q r).length<=p.length; omega⟩,bQ.mk ⟨aF _,aF _,trivial⟩ rfl rfl,o5⟩
 ·refine CV.exit ?_;refine CV.seq ?_;have hX:=aTu hs (by have:=of_decide_eq_false hc; omega);subst hX;refine CV.region rfl (fun h=>nomatch h) ?_;refine xm ?_;refine xn ?_;refine RV.done ?_;refine CV.ret ?_;exact aW rfl (.inr rfl) rfl cH
end
theorem aJz {B:Nat} {q:List Rat}:∀ {n:Nat} {p R:List Rat},kT B q n p=some R->R.length<=p.length
 | 0,_,_,h=>by cases h
 | n+1,p,R,h=>by
  rw[kT] at h;split at h
  ·split at h
   ·rename_i h2;have:=aJz h;have:=(aJy h2).2.2.2.2;omega
   ·cases h
  ·injection h with h;subst h;exact Nat.le_refl _
def gF (B:Nat):List Rat->Rat->Option Rat
 | [],d=>some d
 | a::l,d=>if (aD [a/d] B&&aD [d/wR ((a/d).den:Int)] B)=true then gF B l (d/wR ((a/d).den:Int)) else none
theorem aG1 {B:Nat} {a d D:Rat} {l:List Rat} (h:gF B (a::l) d=some D):aD [a/d] B=true/\aD [d/wR ((a/d).den:Int)] B=true/\gF B l (d/wR ((a/d).den:Int))=some D:=by
 rw[gF] at h;split at h
 ·rename_i h2;rw[Bool.and_eq_true] at h2;exact⟨h2.1,h2.2,h⟩
 ·cases h
theorem aIm {l:List Rat} {k:Nat} (h:k<l.length):l.drop k=l.getD k 0::l.drop (k+1):=by
 rw[List.drop_eq_getElem_cons h];simp[List.getD_eq_getElem?_getD,List.getElem?_eq_getElem h]
section
variable (p:List Rat) (D:Rat) (B:Nat) (hB:B<=300000) (hp:p.length<=1000000) (h:gF B p (aK p)=some D) (h1:aD [1/D] B=true) (h2:aD (aI p (1/D)) B=true)
include hB hp h h1 h2
theorem aOi:aC Tryz.prog 80 [PL p B] (.one (PL (aI p (1/D)) B)):=by
 refine aC.of (n:=31) Tryz.func80 rfl rfl rfl rfl rfl fun cx hfr=>?_;refine sr rfl ?_;refine xn ?_;refine RV.done (sr rfl ?_);refine xm ?_;refine xc (wN _ _ hp) Tryz.func125 (xa rfl) hfr ?_;refine p2 (aV (i:=0) bS) ?_;refine p1 (aP (aB).2) ?_;refine RV.done ?_;refine CV.seq ?_;refine sr rfl ?_;refine xm ?_;refine p1 (bY bL bG) ?_;refine xm ?_;refine RV.done ?_;refine CV.block ?_;refine CV.loop (X:={s:Nat × Rat // s.1<=p.length/\gF B (p.drop s.1) s.2=some D}) (fun s=>[(.s 12,.av (.one (.v (.int .i64 (s.1.1:Int))))),(.s 11,.av (.one (.v (.int .i64 (p.length:Int))))),(.s 10,.av (.one (PL p B))),(.s 0,.av (.one (PL p B))),(.s 3,.av (.one (.ptr 0 0))),(.b 0,.blk 31 [(some 4,RT s.1.2 B)])]) (fun s=>p.length-s.1.1) ⟨(0,aK p),Nat.zero_le _,h⟩ (bQ.mk ⟨aF _,aF _,aF _,aF _,aF _,aF _,trivial⟩ rfl rfl) (fun s=>?_);obtain⟨⟨k,e⟩,hk,hs⟩:=s;simp only at hk hs |-;refine sr rfl ?_;refine p1 (eE) ?_;refine RV.done ?_;refine CV.seq ?_;refine CV.cond rfl (fun hc=>?_) (fun hc=>?_)
 ·have hlt:k<p.length:=(by have:=of_decide_eq_true hc; omega)
  rw[aIm hlt] at hs;obtain⟨o1,o2,o3⟩:=aG1 hs;refine CV.skip ?_;refine CV.seq ?_;refine CV.block ?_;refine sr rfl ?_;refine p1 (dT (k:=some 4) (i:=k) (gE hlt) bG cS) ?_;refine p1 (cD aB) ?_;refine p2 (aV (i:=1) bS) ?_;refine p1 (aP (aB).2) ?_;refine RV.done (sr rfl ?_);refine p1 (aG aB) ?_;refine p1 (aG aB) ?_;refine xd rfl ((pB (p.getD k 0) e B B (by omega) (by omega)).mono (fun _ _ _ _ h=>h) (dY o1)) Tryz.func53 (xb rfl rfl) hfr ?_;refine xc (aH3 (p.getD k 0/e) B) Tryz.func126 (xa rfl) hfr ?_;refine xm ?_;refine p1 (dE) ?_;refine p1 (dE) ?_;refine p2 (aV (i:=2) bS) ?_;refine p2 (aV (i:=3) bS) ?_;refine p1 (aP (aB).2) ?_;refine p1 (aP (aB).2) ?_;refine RV.done ?_;refine CV.region rfl (fun h=>nomatch h) ?_;refine p1 (aG aB) ?_;refine p1 (aG aB) ?_;refine xd rfl ((pB e (wR ((p.getD k 0/e).den:Int)) B (B+3) (by omega) (by omega)).mono (fun _ _ _ _ h=>h) (dY o2)) Tryz.func53 (xb rfl rfl) hfr ?_;refine p1 (aP (aB).2) ?_;refine RV.done ?_;refine CV.region rfl (fun h=>nomatch h) ?_;refine p1 (cU (c:=((k+1:Nat):Int)) (by rw[cF (by omega) (by omega)]; omega) rfl rfl bd rfl rfl) ?_;refine xm ?_;refine RV.done ?_;exact⟨⟨(k+1,e/wR ((p.getD k 0/e).den:Int)),hlt,o3⟩,bQ.mk ⟨aF _,aF _,aF _,aF _,aF _,aF _,trivial⟩ rfl rfl,by show p.length-(k+1)<p.length-k; omega⟩
 ·refine CV.exit ?_;refine CV.seq ?_;have hkp:k=p.length:=(by have:=of_decide_eq_false hc; omega)
  rw[hkp,List.drop_length,gF] at hs;obtain rfl:=Option.some.inj hs;refine CV.region rfl (fun h=>nomatch h) ?_;refine xm ?_;refine p1 (aG aB) ?_;refine xd rfl ((aGn _ _ (by omega)).mono (fun _ _ _ _ h=>h) (dY h1)) Tryz.func127 (xa rfl) hfr ?_;refine xd rfl ((iS p (1/e) B B (by omega) (by omega) hp).mono (fun _ _ _ _ h=>h) (bI h2)) Tryz.func38 (xb rfl rfl) hfr ?_;refine xn ?_;refine RV.done ?_;refine CV.ret ?_;exact aW rfl (.inr rfl) rfl cH
end
def jU (B:Nat) (p:List Rat):Option (List Rat):=(gF B p (aK p)).bind fun D=>if (aD [1/D] B&&aD (aI p (1/D)) B)=true then some (aI p (1/D)) else none
theorem aJl {B:Nat} {p R:List Rat} (h:jU B p=some R):∃ D,gF B p (aK p)=some D/\aD [1/D] B=true/\aD (aI p (1/D)) B=true/\R=aI p (1/D):=by
 unfold jU at h;obtain⟨D,h1,h2⟩:=Option.bind_eq_some_iff.1 h;split at h2
 ·rename_i h3;rw[Bool.and_eq_true] at h3;injection h2 with h2;exact⟨D,h1,h3.1,h3.2,h2.symm⟩
 ·cases h2
theorem aH0 {B:Nat} {p R:List Rat} (h:jU B p=some R):R.length<=p.length:=by
 obtain⟨D,_,_,_,rfl⟩:=aJl h;exact oV _ _
theorem aBx (p R:List Rat) (B:Nat) (hB:B<=300000) (hp:p.length<=1000000) (h:jU B p=some R):aC Tryz.prog 80 [PL p B] (.one (PL R B)):=by
 obtain⟨D,h1,h2,h3,rfl⟩:=aJl h;exact aOi p D B hB hp h1 h2 h3
def jE (B:Nat):Nat->List Rat->List Rat->Option (List Rat)
 | 0,_,_=>none
 | n+1,p,q=>if 0<q.length then (kT B q (p.length+2) p).bind (fun r=>(jU B r).bind fun s=>if s.length<q.length then jE B n q s else none) else some p
theorem aR2 {B n:Nat} {p q R:List Rat} (h:jE B n p q=some R) (hl:0<q.length):∃ m r s,kT B q (p.length+2) p=some r/\jU B r=some s/\s.length<q.length/\jE B m q s=some R:=by
 cases n with
 | zero=>cases h
 | succ n =>
  rw[jE,if_pos hl] at h;obtain⟨r,h1,h⟩:=Option.bind_eq_some_iff.1 h;obtain⟨s,h2,h⟩:=Option.bind_eq_some_iff.1 h;split at h
  ·rename_i h3; exact⟨n,r,s,h1,h2,h3,h⟩
  ·cases h
theorem aTz {B n:Nat} {p q R:List Rat} (h:jE B n p q=some R) (hl:¬ 0<q.length):R=p:=by
 cases n with
 | zero=>cases h
 | succ n =>
  rw[jE,if_neg hl] at h;injection h with h;exact h.symm
section
variable (p q pa qa R:List Rat) (B n:Nat) (hB:B<=300000) (hp:p.length<=1000000) (hq:q.length<=1000000) (h1:jU B p=some pa) (h2:jU B q=some qa) (h:jE B n pa qa=some R) (hm:aD (cL R) B=true)
include hB hp hq h1 h2 h hm
theorem aUx:aC Tryz.prog 34 [PL p B,PL q B] (.one (PL (cL R) B)):=by
 have hpa:=aH0 h1;have hqa:=aH0 h2;refine aC.of (n:=19) Tryz.func34 rfl rfl rfl rfl rfl fun cx hfr=>?_;refine sr rfl ?_;refine xn ?_;refine RV.done (sr rfl ?_);refine xm ?_;refine xc (aBx p pa B hB hp h1) Tryz.func80 (xa rfl) hfr ?_;refine xm ?_;refine xc (aBx q qa B hB hq h2) Tryz.func80 (xa rfl) hfr ?_;refine xn ?_;refine xn ?_;refine RV.done ?_;refine CV.seq ?_;refine CV.block ?_;refine CV.loop (X:={s:Nat × List Rat × List Rat // jE B s.1 s.2.1 s.2.2=some R/\s.2.1.length<=1000000/\s.2.2.length<=1000000}) (fun s=>[(.s 0,.av (.one (PL s.1.2.1 B))),(.s 1,.av (.one (PL s.1.2.2 B)))]) (fun s=>s.1.2.2.length) ⟨(n,pa,qa),h,by show pa.length<=_; omega,by show qa.length<=_; omega⟩ (bQ.mk ⟨aF _,aF _,trivial⟩ rfl rfl) (fun s=>?_);obtain⟨⟨n,r,s⟩,hs,hr,hs1⟩:=s;simp only at hs hr hs1 |-;refine CV.seq ?_;refine sr rfl ?_;refine xm ?_;refine p1 (bY bL bG) ?_;refine p1 (iC) ?_;refine RV.done ?_;refine CV.cond rfl (fun hc=>?_) (fun hc=>?_)
 ·have hlt:0<s.length:=(by have:=of_decide_eq_true hc; omega)
  obtain⟨m,r1,s1,o1,o2,o3,o4⟩:=aR2 hs hlt;have hrl:=aJz o1;refine CV.skip ?_;refine CV.block ?_;refine CV.region rfl (fun h=>nomatch h) ?_;refine xm ?_;refine xm ?_;refine xm ?_;refine xc (aOw r s r1 B _ hB hr hs1 o1) Tryz.func81 (xb rfl rfl) hfr ?_;refine xd rfl (aBx r1 s1 B hB (by omega) o2) Tryz.func80 (xa rfl) hfr ?_;refine xn ?_;refine xn ?_;refine RV.done ?_;exact⟨⟨(m,s,s1),o4,hs1,by show s1.length<=_; omega⟩,bQ.mk ⟨aF _,aF _,trivial⟩ rfl rfl,o3⟩
 ·refine CV.exit ?_;refine CV.seq ?_;have hX:=aTz hs (by have:=of_decide_eq_false hc; omega);subst hX;refine CV.region rfl (fun h=>nomatch h) ?_;refine xm ?_;refine xd rfl ((aH9 R B (by omega) hr).mono (fun _ _ _ _ h=>h) (bI hm)) Tryz.func82 (xa rfl) hfr ?_;refine xn ?_;refine RV.done ?_;refine CV.ret ?_;exact aW rfl (.inr rfl) rfl cH
end
def vB (B:Nat) (p q:List Rat):Option (List Rat):=(jU B p).bind fun pa=>(jU B q).bind fun qa=>(jE B (p.length+q.length+3) pa qa).bind fun R=>if aD (cL R) B=true then some (cL R) else none
theorem aUu (p q G:List Rat) (B:Nat) (hB:B<=300000) (hp:p.length<=1000000) (hq:q.length<=1000000) (h:vB B p q=some G):aC Tryz.prog 34 [PL p B,PL q B] (.one (PL G B)):=by
 unfold vB at h;obtain⟨pa,h1,h⟩:=Option.bind_eq_some_iff.1 h;obtain⟨qa,h2,h⟩:=Option.bind_eq_some_iff.1 h;obtain⟨R,h3,h⟩:=Option.bind_eq_some_iff.1 h;split at h
 ·rename_i hm;injection h with h;subst h;exact aUx p q pa qa R B _ hB hp hq h1 h2 h3 hm
 ·cases h
section
variable (p G U R:List Rat) (B:Nat) (hB:B<=300000) (hp:p.length<=1000000) (h0:aD (bO p) B=true) (h1:vB B p (bO p)=some G) (hG:G.length<=1000000) (h2:dX B p G=some (U,R)) (hU:U.length<=1000000) (hm:aD (cL U) B=true)
include hB hp h0 h1 h2 hG hU hm
theorem aSt:aC Tryz.prog 94 [PL p B] (.one (PL (cL U) B)):=by
 have hdl:(bO p).length<=p.length-1:=(by unfold bO; exact Nat.le_trans (jK _) (by rw[iA]; exact Nat.le_refl _))
 refine aC.of (n:=16) Tryz.func94 rfl rfl rfl rfl rfl fun cx hfr=>?_;refine sr rfl ?_;refine xn ?_;refine RV.done (sr rfl ?_);refine xm ?_;refine xm ?_;refine xm ?_;refine xd rfl ((aGr p B (by omega) hp).mono (fun _ _ _ _ h=>h) (bI h0)) Tryz.func96 (xa rfl) hfr ?_;refine xd rfl (aUu p (bO p) G B hB hp (by omega) h1) Tryz.func34 (xb rfl rfl) hfr ?_;refine xc (zW p G B hB hp hG h2) Tryz.func134 (xb rfl rfl) hfr ?_;refine xm ?_;refine p1 (dE) ?_;refine p1 (dE) ?_;refine xn ?_;refine xn ?_;refine RV.done (sr rfl ?_);refine xm ?_;refine xd rfl ((aH9 U B (by omega) hU).mono (fun _ _ _ _ h=>h) (bI hm)) Tryz.func82 (xa rfl) hfr ?_;refine xn ?_;refine RV.done ?_;refine CV.ret ?_;exact aW rfl (.inr rfl) rfl cH
end
def jA (B:Nat) (p:List Rat):Option (List Rat):=if aD (bO p) B=true then (vB B p (bO p)).bind fun G=>(dX B p G).bind fun x=>if (decide (G.length<=1000000)&&(decide (x.1.length<=1000000)&&aD (cL x.1) B))=true then some (cL x.1) else none else none
theorem aC7 (p F:List Rat) (B:Nat) (hB:B<=300000) (hp:p.length<=1000000) (h:jA B p=some F):aC Tryz.prog 94 [PL p B] (.one (PL F B)):=by
 unfold jA at h;split at h
 ·rename_i h0;obtain⟨G,h1,h⟩:=Option.bind_eq_some_iff.1 h;obtain⟨⟨U,R⟩,h2,h⟩:=Option.bind_eq_some_iff.1 h;split at h
  ·rename_i hm;rw[Bool.and_eq_true,Bool.and_eq_true] at hm;injection h with h;subst h;exact aSt p G U R B hB hp h0 h1 (of_decide_eq_true hm.1) h2 (of_decide_eq_true hm.2.1) hm.2.2
  ·cases h
 ·cases h
theorem aQu (p:List Rat) (K:Nat) (hK:K<=1000000) (hp:p.length<=1000000):aC Tryz.prog 65 [PL p K] (.one (.v (.bool (decide (¬ (p≠[]/\aK p=0)))))):=by
 refine aC.of (n:=18) Tryz.func65 rfl rfl rfl rfl rfl fun cx hfr=>?_;refine sr rfl ?_;refine xn ?_;refine RV.done ?_;refine CV.seq ?_;refine sr rfl ?_;refine xm ?_;refine p1 (bY bL bG) ?_;refine xm ?_;refine RV.done ?_;refine CV.block ?_;refine CV.loop (X:={k:Nat // k<=p.length}) (fun k=>[(.s 7,.av (.one (.v (.int .i64 (k.1:Int))))),(.s 6,.av (.one (.v (.int .i64 (p.length:Int))))),(.s 5,.av (.one (PL p K))),(.s 0,.av (.one (PL p K)))]) (fun k=>p.length-k.1) ⟨0,Nat.zero_le _⟩ (bQ.mk ⟨aF _,aF _,aF _,aF _,trivial⟩ rfl rfl) (fun k=>?_);obtain⟨k,hk⟩:=k;simp only;refine sr rfl ?_;refine p1 (eE) ?_;refine RV.done ?_;refine CV.seq ?_;refine CV.cond rfl (fun hc=>?_) (fun hc=>?_)
 ·have hlt:k<p.length:=(by have:=of_decide_eq_true hc; omega)
  refine CV.skip ?_;refine CV.seq ?_;refine CV.block ?_;refine sr rfl ?_;refine p1 (dT (k:=some 4) (i:=k) (gE hlt) bG cS) ?_;refine p1 (cD aB) ?_;refine p2 (aV (i:=0) bS) ?_;refine p1 (aP (aB).2) ?_;refine RV.done (sr rfl ?_);refine p1 (aG aB) ?_;refine xd rfl (aQt _ _ (by omega)) Tryz.func114 (xa rfl) hfr ?_;refine p1 (fL) ?_;refine RV.done ?_;refine CV.no rfl ?_;refine CV.skip ?_;refine CV.region rfl (fun h=>nomatch h) ?_;refine p1 (cU (c:=((k+1:Nat):Int)) (by rw[cF (by omega) (by omega)]; omega) rfl rfl bd rfl rfl) ?_;refine xm ?_;refine RV.done ?_;exact⟨⟨k+1,hlt⟩,bQ.mk ⟨aF _,aF _,aF _,aF _,trivial⟩ rfl rfl,by show p.length-(k+1)<p.length-k; omega⟩
 ·refine CV.exit ?_;refine sr rfl ?_;refine xm ?_;refine xc (aP4 _ _ hp) Tryz.func115 (xa rfl) hfr ?_;refine p1 (fL) ?_;refine xn ?_;refine RV.done ?_;refine CV.ret ?_;exact aW rfl (.inr rfl) rfl (fV (by rw[decide_not]))
end Vc
end Go.Proofs.YtjmbkipbmbnhjaaGreat
