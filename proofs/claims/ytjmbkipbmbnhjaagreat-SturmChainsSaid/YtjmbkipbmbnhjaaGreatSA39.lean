/-
  
-/
import Derived.Test.YtjmbkipbmbnhjaaGreatSA38
import Derived.Test.YtjmbkipbmbnhjaaGreatSA37
import Derived.Test.YtjmbkipbmbnhjaaGreatSA3
import Derived.Test.YtjmbkipbmbnhjaaGreatSA9
import Derived.Test.YtjmbkipbmbnhjaaGreatSA36
set_option linter.unusedVariables false
set_option linter.unusedSimpArgs false
set_option linter.unusedSectionVars false
namespace Go.Proofs.YtjmbkipbmbnhjaaGreat
open Dg Zn Tx
namespace Tx
/-! Codes. -/
/-! Fractions. -/
open Vc
end Tx
end Go.Proofs.YtjmbkipbmbnhjaaGreat

namespace Go.Proofs.YtjmbkipbmbnhjaaGreat
open Go.RowKit
open Go.Lib (hid)
open Dg Zn Tx
namespace Vc
section
variable {D:Type} [bM D] {P:Program} {cx:Cx D} {n:Nat} {σ:St D} {o:Oper} {d:Nat} {x y:Operand} {T T':TypeId} {k:IntKind} {a b:Int}
theorem aK5 {r:Bool} (h:decide (a<b)=r) (ho:o.op=.binOp .lss T x y T') (hd:o.dst=some d) (hn:d<n) (hx:opd σ x=.av (.one (.v (.int k a)))) (hy:opd σ y=.av (.one (.v (.int k b)))):aM P cx n σ o (bG x++bG y) [(.s d,.av (.one (.v (.bool r))))]:=by
 have q:=cM (P:=P) (cx:=cx) ho hd hn hx hy;rwa[h] at q
end
end Vc
end Go.Proofs.YtjmbkipbmbnhjaaGreat

namespace Go.Proofs.YtjmbkipbmbnhjaaGreat
open Go.RowKit
open Dg Zn
namespace Vc
def aI:List Rat->List Rat
 | []=>[]
 | a::l=>if aI l=[] then (if a=0 then [] else [a]) else a::aI l
theorem qW (l:List Rat) (a:Rat):aI (l++[a])=if a=0 then aI l else l++[a]:=by
 induction l with
 | nil=>show (if aI []=[] then _ else _)=_; rfl
 | cons b l ih =>
  rw[List.cons_append,aI,ih];by_cases h:a=0
  ·rw[if_pos h,if_pos h,aI]
  ·rw[if_neg h,if_neg h,if_neg (by simp)]
theorem aBw (l:List Rat):aI l=l.take (aI l).length:=by
 induction l with
 | nil=>rfl
 | cons a l ih =>
  rw[aI];by_cases h:aI l=[]
  ·rw[if_pos h];split
   ·rfl
   ·rfl
  ·rw[if_neg h,List.length_cons,List.take_succ_cons,<- ih]
theorem iH (l:List Rat):(aI l).length<=l.length:=by
 rw[aBw];exact List.length_take_le' _ _
theorem aGj (l:List Rat):aI l=[]\/(aI l).getD ((aI l).length-1) 0≠0:=by
 induction l with
 | nil=>exact .inl rfl
 | cons a l ih =>
  rw[aI];by_cases h:aI l=[]
  ·rw[if_pos h];by_cases h0:a=0
   ·rw[if_pos h0]; exact .inl rfl
   ·rw[if_neg h0]; exact .inr h0
  ·rw[if_neg h]
   right
   have:=ih.resolve_left h;have hl:0<(aI l).length:=List.length_pos_iff.2 h;rw[List.length_cons,Nat.add_sub_cancel];obtain⟨m,hm⟩:∃ m,(aI l).length=m+1:=⟨(aI l).length-1,by omega⟩
   rw[hm] at this |-;simpa using this
def aW (l:List Rat) (K:Nat):List (SA Dm):=l.map fun a=>RT a K
abbrev PL (l:List Rat) (K:Nat):SA Dm:=.d (Dm.gen (bO (some 4) (aW l K)))
theorem aV {l:List Rat} {K:Nat}:(aW l K).length=l.length:=by simp[aW]
theorem dZ {l:List Rat} {K i:Nat} (h:i<l.length):(aW l K)[i]?=some (RT (l.getD i 0) K):=by
 simp[aW,List.getElem?_eq_getElem h,List.getD_eq_getElem?_getD]
theorem oO {l:List Rat} {K:Nat}:(aW l K).flatMap SA.ptrs=[]:=by
 rw[List.flatMap_eq_nil_iff];intro s hs;obtain⟨b,_,rfl⟩:=List.mem_map.1 hs;rfl
theorem vT {l:List Rat} {K n:Nat}:(aW l K).take n=aW (l.take n) K:=by simp[aW,List.map_take]
theorem yT {l:List Rat} {K n:Nat}:(aW l K).drop n=aW (l.drop n) K:=by simp[aW,List.map_drop]
theorem yG {l m:List Rat} {K:Nat}:aW l K++aW m K=aW (l++m) K:=by simp[aW]
theorem pQ {l:List Rat} {K:Nat}:∀ s∈aW l K,s.plain=true:=by
 intro s hs;obtain⟨b,_,rfl⟩:=List.mem_map.1 hs;rfl
theorem nQ {l:List Rat} {K:Nat}:∀ s∈aW l K,s.kind=some (some 4):=by
 intro s hs;obtain⟨b,_,rfl⟩:=List.mem_map.1 hs;rfl
theorem aTf {f:Nat->Rat} {K m k:Nat} (h:k<m):(kA f K m (k+1))[k]?=some (RT (f k) K):=by simp[kA,h]
def tab (g:Nat->Rat) (n:Nat):List Rat:=(List.range n).map g
theorem eW {g:Nat->Rat} {n:Nat}:(tab g n).length=n:=by simp[tab]
theorem aI0 {g:Nat->Rat} {n:Nat}:tab g (n+1)=tab g n++[g n]:=by simp[tab,List.range_succ]
theorem pR {g:Nat->Rat} {K n:Nat}:iE g K n=aW (tab g n) K:=by simp[iE,aW,tab]
theorem aSu (l:List Rat):tab (fun i=>l.getD i 0) l.length=l:=by
 apply List.ext_getElem
 ·simp[tab]
 ·intro i h1 h2;simp[tab,List.getD_eq_getElem?_getD,List.getElem?_eq_getElem h2]
def atR (l:List Rat) (k:Int):Rat:=if k<0 then 0 else l.getD k.toNat 0
theorem qB (l:List Rat) (k:Nat):atR l (k:Int)=l.getD k 0:=by
 unfold atR;rw[if_neg (by omega),Int.toNat_natCast]
theorem dC {l:List Rat} {k:Nat} (h:l.length<=k):l.getD k 0=0:=by
 rw[List.getD_eq_getElem?_getD,List.getElem?_eq_none h];rfl
def aH (l:List Rat):Rat:=l.getD (l.length-1) 0
theorem aT1 (l:List Rat):atR l ((l.length:Int)-1)=aH l:=by
 unfold atR aH;by_cases h:l.length=0
 ·obtain rfl:=List.eq_nil_of_length_eq_zero h;rfl
 ·rw[if_neg (by omega),show ((l.length:Int)-1).toNat=l.length-1 by omega]
theorem aTu {a:Rat}:a.num=0 ↔ a=0:=Rat.num_eq_zero
theorem tS {a:Rat}:(bB a.num 0=0) ↔ a=0:=by
 rw[<- aTu];generalize a.num=z;unfold bB;split
 ·exact⟨fun h=>absurd h (by decide),fun h=>by omega⟩
 ·split
  ·exact⟨fun h=>absurd h (by decide),fun h=>by omega⟩
  ·exact⟨fun _=>by omega,fun _=>rfl⟩
def kL (p q:List Rat):List Rat:=aI (tab (fun k=>p.getD k 0+q.getD k 0) (max p.length q.length))
def kX (p q:List Rat):List Rat:=aI (tab (fun k=>p.getD k 0-q.getD k 0) (max p.length q.length))
def aT (p:List Rat) (a:Rat):List Rat:=aI (tab (fun k=>p.getD k 0*a) p.length)
def cJ (p:List Rat):List Rat:=aI (tab (fun k=>p.getD (k+1) 0*((k+1:Nat):Rat)) (p.length-1))
end Vc
end Go.Proofs.YtjmbkipbmbnhjaaGreat

namespace Go.Proofs.YtjmbkipbmbnhjaaGreat
open Go.RowKit
open Go.Lib (hid)
open Dg Zn
namespace Vc
set_option maxRecDepth 100000
theorem bC:Tryz.prog.underlying 24=some (.slice 31):=by kernel_rfl
theorem cT:dI Tryz.prog 24 none:=dI.one (by kernel_rfl) (by kernel_rfl)
theorem aAa {a:Rat} {j k:Nat} (h:a=0) (hk:j<=k):∀ L ρ w v,(SA.d (Dm.rt 0 0 j)).is L ρ w v->(AV.one (RT a k)).is L ρ w v:=by
 subst h;exact dT (by decide) (by decide) hk
theorem pP (l:List Rat) (K:Nat) (hl:l.length<=1000000):aD Tryz.prog 51 [PL l K] (.one (.v (.int .i64 ((l.length:Int)-1)))):=by
 refine aD.of (n:=6) Tryz.func51 rfl rfl rfl rfl rfl fun cx hfr=>?_;refine sr rfl ?_;refine xn ?_;refine RV.done (sr rfl ?_);refine xm ?_;refine p1 (bH aV bC) ?_;refine p1 (dM (c:=(l.length:Int)-1) (by rw[bF (by omega) (by omega)]) rfl rfl bd rfl rfl) ?_;refine xn ?_;refine RV.done ?_;refine CV.ret ?_;exact aQ rfl (.inr rfl) rfl cE
theorem aXp (l:List Rat) (K:Nat) (k:Int):aD Tryz.prog 132 [PL l K,.v (.int .i64 k)] (.one (RT (atR l k) K)):=by
 refine aD.of (n:=18) Tryz.func132 rfl rfl rfl rfl rfl fun cx hfr=>?_;refine sr rfl ?_;refine p2 (aU (i:=0) bY) ?_;refine RV.done ?_;refine CV.seq ?_;refine sr rfl ?_;refine xm ?_;refine p1 (cM) ?_;refine xm ?_;refine RV.bool (fun hn=>?_) (fun hn=>?_)
 ·refine xk ?_;refine xk ?_;refine xk ?_;refine xk ?_;refine p1 (dA) ?_;refine RV.done ?_;refine CV.yes rfl ?_;refine sr rfl ?_;refine p1 (mO) ?_;refine p1 (aP (aC).2) ?_;refine RV.done ?_;refine CV.ret ?_;exact aQ rfl (.inr rfl) ⟨_,_,_,_,_,rfl,rfl,rfl,aC⟩ (aAa (by unfold atR; rw[if_pos (of_decide_eq_true hn)]) (Nat.zero_le _))
 ·obtain⟨j,rfl⟩:∃ j:Nat,k=(j:Int):=⟨k.toNat,by have:=of_decide_eq_false hn; omega⟩
  refine y1 (bX (.inl rfl)) ?_;refine y1 (bX (.inl rfl)) ?_;refine y1 (bH aV bC) ?_;refine y1 (rT) ?_;refine p1 (dQ) ?_;refine RV.done ?_;refine CV.cond rfl (fun hc=>?_) (fun hc=>?_)
  ·refine sr rfl ?_;refine p1 (mO) ?_;refine p1 (aP (aC).2) ?_;refine RV.done ?_;refine CV.ret ?_;exact aQ rfl (.inr rfl) ⟨_,_,_,_,_,rfl,rfl,rfl,aC⟩ (aAa (by have:=of_decide_eq_true hc; rw[qB,dC (by omega)]) (Nat.zero_le _))
  ·refine CV.skip ?_;refine sr rfl ?_;refine xm ?_;refine xm ?_;refine p1 (cH (k:=some 4) (i:=j) (dZ (by have:=of_decide_eq_false hc; omega)) bC cF rfl rfl bd rfl rfl (by decide)) ?_;refine p1 (bL aC) ?_;refine p1 (aP (aC).2) ?_;refine RV.done ?_;refine CV.ret ?_;exact aQ rfl (.inr rfl) ⟨_,_,_,_,_,rfl,rfl,rfl,aC⟩ (kF (by rw[qB]))
theorem vV (l:List Rat) (K:Nat) (hl:l.length<=1000000):aD Tryz.prog 125 [PL l K] (.one (RT (aH l) K)):=by
 refine aD.of (n:=7) Tryz.func125 rfl rfl rfl rfl rfl fun cx hfr=>?_;refine sr rfl ?_;refine p2 (aU (i:=0) bY) ?_;refine RV.done (sr rfl ?_);refine xm ?_;refine xm ?_;refine xc (pP _ _ hl) Tryz.func51 (xa rfl) hfr ?_;refine xc (aXp _ _ _) Tryz.func132 (xb rfl rfl) hfr ?_;refine p1 (aP (aC).2) ?_;refine RV.done ?_;refine CV.ret ?_;exact aQ rfl (.inr rfl) ⟨_,_,_,_,_,rfl,rfl,rfl,aC⟩ (kF (by rw[aT1]))
theorem aPu (l:List Rat) (K:Nat) (hl:l.length<=1000000):aD Tryz.prog 115 [PL l K] (.one (.v (.bool (decide (l≠[]/\aH l=0))))):=by
 refine aD.of (n:=12) Tryz.func115 rfl rfl rfl rfl rfl fun cx hfr=>?_;refine sr rfl ?_;refine xn ?_;refine RV.done (sr rfl ?_);refine xm ?_;refine p1 (bH aV cA) ?_;refine p1 (gH) ?_;refine xm ?_;refine RV.bool (fun hn=>?_) (fun hn=>?_)
 ·refine y1 (bX (.inl rfl)) ?_;refine y1 (cB (vV _ _ hl) rfl rfl bd Tryz.func125 rfl rfl (xa rfl) rfl hfr rfl) ?_;refine y1 (cB (yN _ _) rfl rfl bd Tryz.func98 rfl rfl (xa rfl) rfl hfr rfl) ?_;refine y1 (cQ) ?_;refine p1 (dA) ?_;refine xn ?_;refine RV.done ?_;refine CV.ret ?_;have h1:l≠[]:=List.length_pos_iff.1 (by have:=of_decide_eq_true hn; omega);exact aQ rfl (.inr rfl) rfl (fY (by rw[Bool.eq_iff_iff,beq_iff_eq,decide_eq_true_eq,tS]; exact⟨fun h=>⟨h1,h⟩,fun h=>h.2⟩))
 ·refine xk ?_;refine xk ?_;refine xk ?_;refine xk ?_;refine p1 (dQ) ?_;refine xn ?_;refine RV.done ?_;refine CV.ret ?_;have h1:l=[]:=List.eq_nil_of_length_eq_zero (by have:=of_decide_eq_false hn; omega);exact aQ rfl (.inr rfl) rfl (fY (by symm; rw[decide_eq_false_iff_not]; exact fun h=>h.1 h1))
section
variable {f : FuncId} {fn : Func} {caps : List (SA Dm)} (g : Nat -> Rat) (K N : Nat) (z : Int) (hz : N = z.toNat) (hN : z <= 1000000) (hf : Tryz.prog.funcs[f]? = some fn) (hname : (fn.name == "runtime.NumGoroutine") = false) (hb : fn.body.isSome = true) (hcon : ∀ k, k < N -> aD Tryz.prog f (.v (.int .i64 (k : Int)) :: caps) (.one (RT (g k) K)))
include hz hN hf hname hb hcon
theorem yW:aD Tryz.prog 77 [.v (.int .i64 z),.d (Dm.gen (qP f caps))] (.one (PL (aI (tab g N)) K)):=by
 refine aD.of (n:=34) Tryz.func77 rfl rfl rfl rfl rfl fun cx hfr=>?_;refine sr rfl ?_;refine xn ?_;refine RV.done (sr rfl ?_);refine xm ?_;refine p1 (wC (c:=(N:Int)) (by split<;>omega) rfl rfl bd rfl rfl) ?_;refine p2 (wD (r:=10) (Nat.le_refl _) (by omega) (by omega) bC fZ rfl rfl rfl rfl bd rfl rfl rfl rfl rfl) ?_;refine xn ?_;refine RV.done (sr rfl ?_);refine xn ?_;refine RV.done ?_;refine CV.seq ?_;refine sr rfl ?_;refine xm ?_;refine xm ?_;refine RV.done ?_;refine CV.block ?_;refine CV.loop (X:={k:Nat // k<=N}) (fun k=>[(.s 12,.av (.one (.v (.int .i64 (k.1:Int))))),(.s 11,.av (.one (.v (.int .i64 z)))),(.s 5,.av (.one (.sl 10 N))),(.b 10,.row 31 (some 4) (kA g K N k.1)),(.s 6,.av (.one (.v (.int .i64 ((aI (tab g k.1)).length:Int))))),(.s 1,.av (.one (.d (Dm.gen (qP f caps)))))]) (fun k=>N-k.1) ⟨0,Nat.zero_le _⟩ (aZ.mk ⟨aB _,aB _,aB _,eE aGt,aB _,aB _,trivial⟩ rfl rfl) (fun k=>?_);obtain⟨k,hk⟩:=k;simp only;refine sr rfl ?_;refine p1 (cM) ?_;refine RV.done ?_;refine CV.seq ?_;refine CV.cond rfl (fun hc=>?_) (fun hc=>?_)
 ·have hlt:k<N:=(by have:=of_decide_eq_true hc; omega)
  refine CV.skip ?_;refine CV.seq ?_;refine CV.block ?_;refine sr rfl ?_;refine xm ?_;refine xn ?_;refine RV.done (sr rfl ?_);refine xm ?_;refine xm ?_;refine xm ?_;refine xm ?_;refine p1 (vL (sas:=[.v (.int .i64 (k:Int))]) (hcon k hlt) hf hname hb rfl rfl bd rfl (xa rfl) rfl hfr rfl) ?_;refine p1 (mR (i:=k) hlt (by rw[uX]; exact Nat.le_refl _) bC cF rfl rfl bd rfl rfl rfl) ?_;refine p1 (sX (i:=k) (by rw[uX]; exact hlt) (by show 0<4; decide) cF (.inl rfl) rfl rfl rfl rfl rfl rfl rfl rfl rfl) ?_;refine RV.done ?_;refine CV.seq ?_;rw[aHu];refine CV.region rfl (fun h=>nomatch h) ?_;refine xm ?_;refine xm ?_;refine p1 (mR (i:=k) hlt (by rw[uX]; exact Nat.le_refl _) bC cF rfl rfl bd rfl rfl rfl) ?_;refine p1 (tL (i:=k) (aTf hlt) rfl aC (by show 0<4; decide) rfl rfl bd rfl rfl) ?_;refine xc (yN _ _) Tryz.func98 (xa rfl) hfr ?_;refine p1 (mX) ?_;refine RV.done ?_;refine CV.cond rfl (fun h0=>?_) (fun h0=>?_)
  ·refine CV.region rfl (fun h=>nomatch h) ?_;refine xm ?_;refine p1 (cC (c:=((k+1:Nat):Int)) (by rw[bF (by omega) (by omega)]; omega) rfl rfl bd rfl rfl) ?_;refine xn ?_;refine RV.done ?_;refine CV.region rfl (fun h=>nomatch h) ?_;refine p1 (cC (c:=((k+1:Nat):Int)) (by rw[bF (by omega) (by omega)]; omega) rfl rfl bd rfl rfl) ?_;refine xm ?_;refine RV.done ?_;have hne:g k≠0:=(fun e=>by rw[bne_iff_ne] at h0; exact h0 (tS.2 e))
   exact⟨⟨k+1,hlt⟩,aZ.mk ⟨aB _,aB _,aB _,aB _,jG (by show (XV.av (.one (.v (.int .i64 ((k+1:Nat):Int)))):XV Dm)=.av (.one (.v (.int .i64 ((aI (tab g (k+1))).length:Int)))); rw[aI0,qW,if_neg hne,List.length_append,eW]; rfl),aB _,trivial⟩ rfl rfl,by show N-(k+1)<N-k; omega⟩
  ·refine CV.skip ?_;refine CV.region rfl (fun h=>nomatch h) ?_;refine p1 (cC (c:=((k+1:Nat):Int)) (by rw[bF (by omega) (by omega)]; omega) rfl rfl bd rfl rfl) ?_;refine xm ?_;refine RV.done ?_;have he:g k=0:=(tS.1 (by rw[bne_eq_false_iff_eq] at h0; exact h0))
   exact⟨⟨k+1,hlt⟩,aZ.mk ⟨aB _,aB _,aB _,aB _,jG (by show (XV.av (.one (.v (.int .i64 ((aI (tab g k)).length:Int)))):XV Dm)=.av (.one (.v (.int .i64 ((aI (tab g (k+1))).length:Int)))); rw[aI0,qW,if_pos he]),aB _,trivial⟩ rfl rfl,by show N-(k+1)<N-k; omega⟩
 ·refine CV.exit ?_;refine CV.seq ?_;have hkN:k=N:=(by have:=of_decide_eq_false hc; omega)
  subst hkN;rw[aHv,pR];refine iK (r:=10) (t:=5) (G:=Dm.gen (bO (some 4) (aW (tab g k) K))) (cx.bw hfr) rfl rfl (by rw[aV,eW]) rfl rfl (cG _ _) (gR _ _) ?_;refine CV.region rfl (fun h=>nomatch h) ?_;refine xm ?_;refine xm ?_;refine xm ?_;refine p1 (oU (k:=some 4) (l':=aW (aI (tab g k)) K) none (some (aI (tab g k)).length) (some (aI (tab g k)).length) (by show ((aW (tab g k) K).take (aI (tab g k)).length).drop 0=_; rw[List.drop_zero,vT,<- aBw]) (by decide) (Nat.zero_le _) (Nat.le_refl _) (by show (aI (tab g k)).length<=(aW (tab g k) K).length; rw[aV]; exact iH _) (fun h=>nomatch h) bC cF rfl rfl bd rfl trivial rfl rfl) ?_;refine xn ?_;refine RV.done ?_;refine CV.ret ?_;exact aQ rfl (.inr rfl) rfl cE
end
abbrev iN (l:List Rat) (K:Nat):SA Dm:=.d (Dm.gen (pG none (PL l K)))
abbrev uQ (a:Rat) (K:Nat):SA Dm:=.d (Dm.gen (pG (some 4) (RT a K)))
abbrev pI (z:Int):SA Dm:=.d (Dm.gen (pG none (.v (.int .i64 z))))
theorem aQf (p:List Rat) (a:Rat) (j K k:Nat) (hj:j<=10000000) (hK:K<=10000000) (hk:k<p.length):aD Tryz.prog 86 [.v (.int .i64 (k:Int)),iN p j,uQ a K] (.one (RT (p.getD k 0*a) (3*(j+K)+20))):=by
 refine aD.of (n:=11) Tryz.func86 rfl rfl rfl rfl rfl fun cx hfr=>?_;refine sr rfl ?_;refine p2 (aU (i:=0) bY) ?_;refine RV.done ?_;refine CV.seq ?_;refine CV.region rfl (fun _=>by kernel_rfl) ?_;refine p1 (bL cT) ?_;refine xm ?_;refine p1 (cH (k:=some 4) (i:=k) (dZ hk) bC cF) ?_;refine p1 (bL aC) ?_;refine p1 (bL aC) ?_;refine xc (nS _ _ _ _ hj hK) Tryz.func87 (xb rfl rfl) hfr ?_;refine p1 (aP (aC).2) ?_;refine bQ (by kernel_rfl) ?_;refine CV.ret ?_;exact aQ rfl (.inr rfl) ⟨_,_,_,_,_,rfl,rfl,rfl,aC⟩ cE
theorem sP (p:List Rat) (a:Rat) (j K:Nat) (hj:j<=10000000) (hK:K<=10000000) (hp:p.length<=1000000):aD Tryz.prog 38 [PL p j,RT a K] (.one (PL (aT p a) (3*(j+K)+20))):=by
 refine aD.of (n:=9) Tryz.func38 rfl rfl rfl rfl rfl fun cx hfr=>?_;refine sr rfl ?_;refine p1 (kU) ?_;refine p1 (kU) ?_;refine xn ?_;refine RV.done (sr rfl ?_);refine p1 (bL cT) ?_;refine p1 (bH aV bC) ?_;refine p1 (tX (caps:=[.tmp 2,.tmp 3]) (ss:=[_,_]) rfl rfl bd (xb rfl rfl) rfl) ?_;refine xd rfl (yW (fun k=>p.getD k 0*a) (3*(j+K)+20) p.length (p.length:Int) (by omega) (by omega) Tryz.func86 rfl rfl (caps:=[iN p j,uQ a K]) (fun k hk=>aQf p a j K k hj hK hk)) Tryz.func77 (xb rfl rfl) hfr ?_;refine xn ?_;refine RV.done ?_;refine CV.ret ?_;exact aQ rfl (.inr rfl) rfl cE
theorem aG9 (k:Nat):Rat.divInt ((k:Nat):Int) 1=((k:Nat):Rat):=by
 have h:=aBn ((k:Nat):Int);refine Rat.ext ?_ ?_
 ·rw[show (Rat.divInt ((k:Nat):Int) 1).num=(k:Int) by exact h.1];rfl
 ·rw[show (Rat.divInt ((k:Nat):Int) 1).den=1 by have:=h.2; omega];rfl
theorem aPa (p:List Rat) (j k:Nat) (hj:j<=10000000) (hk:k+1<p.length) (hp:p.length<=1000000):aD Tryz.prog 136 [.v (.int .i64 (k:Int)),iN p j] (.one (RT (p.getD (k+1) 0*((k+1:Nat):Rat)) (3*(j+6)+20))):=by
 refine aD.of (n:=13) Tryz.func136 rfl rfl rfl rfl rfl fun cx hfr=>?_;refine sr rfl ?_;refine p2 (aU (i:=0) bY) ?_;refine RV.done ?_;refine CV.seq ?_;refine CV.region rfl (fun _=>by kernel_rfl) ?_;refine p1 (bL cT) ?_;refine xm ?_;refine p1 (cC (c:=((k+1:Nat):Int)) (by rw[bF (by omega) (by omega)]; omega) rfl rfl bd rfl rfl) ?_;refine p1 (cH (k:=some 4) (i:=k+1) (dZ hk) bC cF) ?_;refine p1 (bL aC) ?_;refine xm ?_;refine p1 (cC (c:=((k+1:Nat):Int)) (by rw[bF (by omega) (by omega)]; omega) rfl rfl bd rfl rfl) ?_;refine xd rfl (oZ _ _ (by omega) (by omega) (by decide) (by decide)) Tryz.func57 (xb rfl rfl) hfr ?_;refine xd rfl (nS _ _ _ _ hj (by decide)) Tryz.func87 (xb rfl rfl) hfr ?_;refine p1 (aP (aC).2) ?_;refine bQ (by kernel_rfl) ?_;refine CV.ret ?_;exact aQ rfl (.inr rfl) ⟨_,_,_,_,_,rfl,rfl,rfl,aC⟩ (kF (by rw[aG9]))
theorem aGh (p:List Rat) (j:Nat) (hj:j<=10000000) (hp:p.length<=1000000):aD Tryz.prog 96 [PL p j] (.one (PL (cJ p) (3*(j+6)+20))):=by
 refine aD.of (n:=7) Tryz.func96 rfl rfl rfl rfl rfl fun cx hfr=>?_;refine sr rfl ?_;refine p1 (kU) ?_;refine xn ?_;refine RV.done (sr rfl ?_);refine p1 (bL cT) ?_;refine xc (pP _ _ hp) Tryz.func51 (xa rfl) hfr ?_;refine p1 (tX (caps:=[.tmp 1]) (ss:=[_]) rfl rfl bd (xa rfl) rfl) ?_;refine xd rfl (yW (fun k=>p.getD (k+1) 0*((k+1:Nat):Rat)) (3*(j+6)+20) (p.length-1) ((p.length:Int)-1) (by omega) (by omega) Tryz.func136 rfl rfl (caps:=[iN p j]) (fun k hk=>aPa p j k hj (by omega) hp)) Tryz.func77 (xb rfl rfl) hfr ?_;refine xn ?_;refine RV.done ?_;refine CV.ret ?_;exact aQ rfl (.inr rfl) rfl cE
def eB (p q:List Rat) (m:Rat):List Rat:=aI (tab (fun k=>if k<p.length-q.length then p.getD k 0 else p.getD k 0-m*q.getD (k-(p.length-q.length)) 0) (p.length-1))
theorem aOu (p q:List Rat) (m:Rat) (j i K k s:Nat) (hk:k<p.length) (hs:k<s):aD Tryz.prog 151 [.v (.int .i64 (k:Int)),pI (s:Int),iN p j,uQ m i,iN q K] (.one (RT (p.getD k 0) j)):=by
 refine aD.of (n:=27) Tryz.func151 rfl rfl rfl rfl rfl fun cx hfr=>?_;refine sr rfl ?_;refine p2 (aU (i:=0) bY) ?_;refine RV.done ?_;refine CV.seq ?_;refine sr rfl ?_;refine xm ?_;refine p1 (bL gG) ?_;refine p1 (aK5 (r:=true) (by rw[decide_eq_true_eq]; omega) rfl rfl bd rfl rfl) ?_;refine RV.done ?_;refine CV.yes rfl ?_;refine sr rfl ?_;refine p1 (bL cT) ?_;refine xm ?_;refine p1 (cH (k:=some 4) (i:=k) (dZ hk) bC cF) ?_;refine p1 (bL aC) ?_;refine p1 (aP (aC).2) ?_;refine RV.done ?_;refine CV.ret ?_;exact aQ rfl (.inr rfl) ⟨_,_,_,_,_,rfl,rfl,rfl,aC⟩ cE
theorem aOt (p q:List Rat) (m:Rat) (j i K k s:Nat) (hj:j<=1000000) (hi:i<=1000000) (hK:K<=1000000) (hk:k<p.length) (hs:¬ k<s) (hq:k-s<q.length) (hs2:s<=1000000) (hp:p.length<=1000000):aD Tryz.prog 151 [.v (.int .i64 (k:Int)),pI (s:Int),iN p j,uQ m i,iN q K] (.one (RT (p.getD k 0-m*q.getD (k-s) 0) (3*(j+(3*(i+K)+20))+20))):=by
 refine aD.of (n:=27) Tryz.func151 rfl rfl rfl rfl rfl fun cx hfr=>?_;refine sr rfl ?_;refine p2 (aU (i:=0) bY) ?_;refine RV.done ?_;refine CV.seq ?_;refine sr rfl ?_;refine xm ?_;refine p1 (bL gG) ?_;refine p1 (aK5 (r:=false) (by rw[decide_eq_false_iff_not]; omega) rfl rfl bd rfl rfl) ?_;refine RV.done ?_;refine CV.no rfl ?_;refine CV.skip ?_;refine CV.seq ?_;refine CV.region rfl (fun _=>by kernel_rfl) ?_;refine p1 (bL cT) ?_;refine xm ?_;refine p1 (cH (k:=some 4) (i:=k) (dZ hk) bC cF) ?_;refine p1 (bL aC) ?_;refine p1 (bL aC) ?_;refine p1 (bL cT) ?_;refine xm ?_;refine p1 (bL gG) ?_;refine p1 (dM (c:=((k-s:Nat):Int)) (by rw[bF (by omega) (by omega)]; omega) rfl rfl bd rfl rfl) ?_;refine p1 (cH (k:=some 4) (i:=k-s) (dZ hq) bC cF) ?_;refine p1 (bL aC) ?_;refine xd rfl (nS _ _ _ _ (by omega) (by omega)) Tryz.func87 (xb rfl rfl) hfr ?_;refine xd rfl (aUv _ _ _ _ (by omega) (by omega)) Tryz.func152 (xb rfl rfl) hfr ?_;refine p1 (aP (aC).2) ?_;refine bQ (by kernel_rfl) ?_;refine CV.ret ?_;exact aQ rfl (.inr rfl) ⟨_,_,_,_,_,rfl,rfl,rfl,aC⟩ cE
theorem aOv (p q:List Rat) (m:Rat) (j i K k s:Nat) (hj:j<=1000000) (hi:i<=1000000) (hK:K<=1000000) (hk:k<p.length) (hq:k<s\/k-s<q.length) (hs2:s<=1000000) (hp:p.length<=1000000):aD Tryz.prog 151 [.v (.int .i64 (k:Int)),pI (s:Int),iN p j,uQ m i,iN q K] (.one (RT (if k<s then p.getD k 0 else p.getD k 0-m*q.getD (k-s) 0) (3*(j+(3*(i+K)+20))+20))):=by
 by_cases h:k<s
 ·rw[if_pos h];exact(aOu p q m j i K k s hk h).mono (fun _ _ _ _ h=>h) (dT rfl rfl (by omega))
 ·rw[if_neg h];exact aOt p q m j i K k s hj hi hK hk h (hq.resolve_left h) hs2 hp
theorem aGr (p q:List Rat) (m:Rat) (j i K:Nat) (hj:j<=1000000) (hi:i<=1000000) (hK:K<=1000000) (hp:p.length<=1000000) (hqp:q.length<=p.length):aD Tryz.prog 129 [PL p j,PL q K,RT m i] (.one (PL (eB p q m) (3*(j+(3*(i+K)+20))+20))):=by
 refine aD.of (n:=17) Tryz.func129 rfl rfl rfl rfl rfl fun cx hfr=>?_;refine sr rfl ?_;refine p1 (kU) ?_;refine p1 (kU) ?_;refine p1 (kU) ?_;refine xn ?_;refine RV.done (sr rfl ?_);refine p1 (bL cT) ?_;refine p1 (bH aV bC) ?_;refine p1 (bL cT) ?_;refine p1 (bH aV bC) ?_;refine p1 (dM (c:=((p.length-q.length:Nat):Int)) (by rw[bF (by omega) (by omega)]; omega) rfl rfl bd rfl rfl) ?_;refine fX (aM.plain (aRi (r:=7) (k:=none) aSp rfl rfl rfl bd rfl rfl rfl) rfl) ?_;refine p1 (sX (i:=0) (by decide) (by show 0<1; decide) nT (.inr rfl) rfl rfl rfl rfl rfl rfl rfl rfl rfl) ?_;refine RV.done ?_;refine CV.seq ?_;refine aQj (r:=7) (t:=7) (cx.bw hfr) rfl rfl rfl rfl ?_;refine CV.kp [] rfl rfl ?_;refine CV.region rfl (fun h=>nomatch h) ?_;refine p1 (bL cT) ?_;refine xc (pP _ _ hp) Tryz.func51 (xa rfl) hfr ?_;refine p1 (tX (caps:=[.tmp 7,.tmp 3,.tmp 5,.tmp 4]) (ss:=[_,_,_,_]) rfl rfl bd (.cons rfl cS.any (.cons rfl cS.any (xb rfl rfl))) rfl) ?_;refine xd rfl (yW (fun k=>if k<p.length-q.length then p.getD k 0 else p.getD k 0-m*q.getD (k-(p.length-q.length)) 0) (3*(j+(3*(i+K)+20))+20) (p.length-1) ((p.length:Int)-1) (by omega) (by omega) Tryz.func151 rfl rfl (caps:=[pI ((p.length-q.length:Nat):Int),iN p j,uQ m i,iN q K]) (fun k hk=>aOv p q m j i K k (p.length-q.length) hj hi hK (by omega) (by omega) (by omega) hp)) Tryz.func77 (xb rfl rfl) hfr ?_;refine xn ?_;refine RV.done ?_;refine CV.ret ?_;exact aQ rfl (.inr rfl) rfl cE
theorem aHp (p q:List Rat) (j K:Nat) (hj:j<=1000000) (hK:K<=1000000) (hp:p.length<=1000000) (hq:q.length<=1000000):aD Tryz.prog 128 [PL p j,PL q K] (.one (RT (aH p/aH q) (3*(j+K)+40))):=by
 refine aD.of (n:=10) Tryz.func128 rfl rfl rfl rfl rfl fun cx hfr=>?_;refine sr rfl ?_;refine p2 (aU (i:=0) bY) ?_;refine RV.done (sr rfl ?_);refine xm ?_;refine xc (vV _ _ hp) Tryz.func125 (xa rfl) hfr ?_;refine xm ?_;refine xc (vV _ _ hq) Tryz.func125 (xa rfl) hfr ?_;refine xc (oQ _ _ _ _ hj hK) Tryz.func53 (xb rfl rfl) hfr ?_;refine p1 (aP (aC).2) ?_;refine RV.done ?_;refine CV.ret ?_;exact aQ rfl (.inr rfl) ⟨_,_,_,_,_,rfl,rfl,rfl,aC⟩ cE
theorem aGd (a:Rat) (K:Nat) (hK:K<=1000000):aD Tryz.prog 127 [RT a K] (.one (RT (1/a) (3*(6+K)+40))):=by
 refine aD.of (n:=6) Tryz.func127 rfl rfl rfl rfl rfl fun cx hfr=>?_;refine sr rfl ?_;refine p2 (bZ (i:=0)) ?_;refine p2 (aU (i:=1) bY) ?_;refine RV.done ?_;refine CV.seq ?_;refine CV.region rfl (fun _=>by kernel_rfl) ?_;refine xd rfl (oZ _ _ (by decide) (by decide) (by decide) (by decide)) Tryz.func57 (xb rfl rfl) hfr ?_;refine p1 (aJ aC) ?_;refine xd rfl (oQ _ _ _ _ (by decide) hK) Tryz.func53 (xb rfl rfl) hfr ?_;refine p1 (aP (aC).2) ?_;refine bQ (by kernel_rfl) ?_;refine CV.ret ?_;exact aQ rfl (.inr rfl) ⟨_,_,_,_,_,rfl,rfl,rfl,aC⟩ (kF (by rw[show Rat.divInt 1 1=1 from by decide]))
def bA (p:List Rat):List Rat:=aT p (1/aH p)
theorem aH3 (p:List Rat) (K:Nat) (hK:K<=1000000) (hp:p.length<=1000000):aD Tryz.prog 82 [PL p K] (.one (PL (bA p) (3*(K+(3*(6+K)+40))+20))):=by
 refine aD.of (n:=8) Tryz.func82 rfl rfl rfl rfl rfl fun cx hfr=>?_;refine sr rfl ?_;refine xn ?_;refine RV.done (sr rfl ?_);refine xm ?_;refine xm ?_;refine xc (vV _ _ hp) Tryz.func125 (xa rfl) hfr ?_;refine xc (aGd _ _ hK) Tryz.func127 (xa rfl) hfr ?_;refine xd rfl (sP _ _ _ _ (by omega) (by omega) hp) Tryz.func38 (xb rfl rfl) hfr ?_;refine xn ?_;refine RV.done ?_;refine CV.ret ?_;exact aQ rfl (.inr rfl) rfl cE
/-! Sizes. -/
def aG (l:List Rat) (B:Nat):Bool:=l.all fun a=>decide (len a.num<=B)&&decide (len (qd a)<=B)
theorem pS {a:Rat} {B:Nat} (h:aG [a] B=true):len a.num<=B/\len (qd a)<=B:=by
 simpa[aG] using h
theorem zI {l:List Rat} {B:Nat} (h:aG l B=true) {a:Rat} (ha:a∈l):len a.num<=B/\len (qd a)<=B:=by
 have:=List.all_eq_true.1 h a ha;simpa using this
theorem aM7 {a:Rat} {K B:Nat} (h:len a.num<=B/\len (qd a)<=B) {w:World} {v:Value} (hv:(RT a K).at w v):(RT a B).at w v:=by
 obtain⟨s,t,h1,h2,h3,_,_⟩:=hv;exact⟨s,t,h1,h2,h3,h.1,h.2⟩
theorem aXy {a:Rat} {K B:Nat} (h:aG [a] B=true):∀ L ρ w v,(RT a K).is L ρ w v->(RT a B).is L ρ w v:=fun _ _ _ _ hv w' hw=>aM7 (pS h) (hv w' hw)
inductive fN {α β:Type} (R:α -> β->Prop):List α->List β->Prop where
 | nil:fN R [] []
 | cons {a:α} {b : β} {l:List α} {m:List β}:R a b->fN R l m->fN R (a::l) (b::m)
theorem fN.length_eq {α β:Type} {R:α -> β->Prop} {l:List α} {m:List β} (h:fN R l m):l.length=m.length:=by
 induction h with
 | nil=>rfl
 | cons _ _ ih=>rw[List.length_cons,List.length_cons,ih]
theorem dR {a:Rat} {K B:Nat} (h:aG [a] B=true):∀ L ρ w v,(AV.one (RT a K)).is L ρ w v->(AV.one (RT a B)).is L ρ w v:=aXy h
theorem aM0 {w:World} {k:Option Nat}:∀ {l l':List (SA Dm)} {cs:List Value},fN (fun s s':SA Dm=>∀ w v,s.at w v->s'.at w v) l l'->dB w k l cs->dB w k l' cs
 | [],[],_,_,h=>h
 | _::_,_::_,_,.cons h1 h2,⟨p,r,v,e1,e2,e3,e4⟩=>⟨p,r,v,e1,e2,h1 _ _ e3,aM0 h2 e4⟩
theorem aEt {k:Option Nat} {l l':List (SA Dm)} (h:fN (fun s s':SA Dm=>∀ w v,s.at w v->s'.at w v) l l'):∀ L ρ w v,(SA.d (Dm.gen (bO k l))).is L ρ w v->(SA.d (Dm.gen (bO k l'))).is L ρ w v:=by
 intro L ρ w v hv w' hw;have hl:=h.length_eq;obtain⟨ao,cap,rfl,h1,h2⟩:=hv w' hw;refine⟨ao,cap,by rw[hl],by rw[<- hl]; exact h1,fun hp=>?_⟩;obtain⟨b,off,e,cs,h3,h4⟩:=h2 (by rw[hl]; exact hp);exact⟨b,off,e,cs,aM0 h h3,h4⟩
theorem aX1 {l:List Rat} {K B:Nat} (h:aG l B=true):∀ L ρ w v,(PL l K).is L ρ w v->(PL l B).is L ρ w v:=by
 refine aEt ?_;have:∀ m:List Rat,(∀ a∈m,len a.num<=B/\len (qd a)<=B)->fN (fun s s':SA Dm=>∀ w v,s.at w v->s'.at w v) (aW m K) (aW m B):=by
  intro m
  induction m with
  | nil=>intro _; exact .nil
  | cons a m ih=>intro hm; exact .cons (fun w v hv=>aM7 (hm a List.mem_cons_self) hv) (ih fun x hx=>hm x (List.mem_cons_of_mem _ hx))
 exact this l fun a ha=>zI h ha
theorem dG {l:List Rat} {K B:Nat} (h:aG l B=true):∀ L ρ w v,(AV.one (PL l K)).is L ρ w v->(AV.one (PL l B)).is L ρ w v:=aX1 h
theorem aS6 (p q:List Rat) (m:Rat):(eB p q m).length<=p.length-1:=by
 unfold eB;refine Nat.le_trans (iH _) ?_;rw[eW];exact Nat.le_refl _
/-! Div. -/
def oF (u:List (Option Rat)) (B:Nat):List (SA Dm):=u.map fun o=>match o with | none=>.v dL | some a=>RT a B
theorem aB0 {u:List (Option Rat)} {B:Nat}:(oF u B).length=u.length:=by simp[oF]
theorem aTd {n B:Nat}:List.replicate n (SA.v dL:SA Dm)=oF (List.replicate n none) B:=by simp[oF]
theorem aVm {u:List (Option Rat)} {B i:Nat} {a:Rat}:(oF u B).set i (RT a B)=oF (u.set i (some a)) B:=by simp[oF,List.map_set]
theorem aW2 {u:List (Option Rat)} {B:Nat}:∀ L ρ w v,(SA.d (Dm.gen (bO (some 4) (oF u B)))).is L ρ w v->(PL (u.map fun o=>o.getD 0) B).is L ρ w v:=by
 refine aEt ?_
 induction u with
 | nil=>exact .nil
 | cons o u ih =>
  refine .cons (fun w v hv=>?_) ih;cases o with
  | none =>
   obtain rfl:v=dL:=hv;have h0:(aA (0:Int).natAbs).length<=B:=by rw[show (0:Int).natAbs=0 from rfl,fW]; exact Nat.zero_le _
   exact⟨_,_,rfl,aL.nil (by decide),aL.nil (by decide),h0,h0⟩
  | some a=>exact hv
def kJ (B:Nat) (q:List Rat):Nat->List (Option Rat)->List Rat->Option (List (Option Rat) × List Rat)
 | 0,_,_=>none
 | n+1,u,r=>if q.length<=r.length then (if (aG [aH r/aH q] B&&aG (eB r q (aH r/aH q)) B)=true then kJ B q n (u.set (r.length-q.length) (some (aH r/aH q))) (eB r q (aH r/aH q)) else none) else some (u,r)
theorem aIi {B n:Nat} {q r:List Rat} {u:List (Option Rat)} {X:List (Option Rat) × List Rat} (h:kJ B q n u r=some X) (hl:q.length<=r.length) :
  ∃ m,aG [aH r/aH q] B=true/\aG (eB r q (aH r/aH q)) B=true/\kJ B q m (u.set (r.length-q.length) (some (aH r/aH q))) (eB r q (aH r/aH q))=some X:=by
 cases n with
 | zero=>cases h
 | succ n =>
  rw[kJ,if_pos hl] at h;split at h
  ·rename_i h2;rw[Bool.and_eq_true] at h2;exact⟨n,h2.1,h2.2,h⟩
  ·cases h
theorem aJ1 {B n:Nat} {q r:List Rat} {u:List (Option Rat)} {X:List (Option Rat) × List Rat} (h:kJ B q n u r=some X) (hl:¬ q.length<=r.length):X=(u,r):=by
 cases n with
 | zero=>cases h
 | succ n =>
  rw[kJ,if_neg hl] at h;injection h with h;exact h.symm
def dV (B:Nat) (p q:List Rat):Option (List Rat × List Rat):=if q=[] then some ([],[]) else (kJ B q (p.length+2) (List.replicate (p.length+1-q.length) none) p).map fun x=>(x.1.map fun o=>o.getD 0,x.2)
theorem nX {K:Nat}:∀ (L:Nat->Prop) (ρ:aR) (w:World) (v:Value),(SA.v (.slice none 0 0):SA Dm).is L ρ w v->(PL [] K).is L ρ w v:=by
 intro L ρ w v h w' _;obtain rfl:v=_:=h;exact⟨none,0,rfl,⟨Nat.le_refl _,by decide⟩,fun h=>absurd h (Nat.lt_irrefl 0)⟩
theorem aU3 (p:List Rat) (K B:Nat):aD Tryz.prog 134 [PL p K,PL [] B] (.tup [PL [] B,PL [] B]):=by
 refine aD.of (n:=43) Tryz.func134 rfl rfl rfl rfl rfl fun cx hfr=>?_;refine sr rfl ?_;refine xn ?_;refine xn ?_;refine RV.done ?_;refine CV.seq ?_;refine sr rfl ?_;refine xm ?_;refine p1 (bH aV bC) ?_;refine p1 (cQ) ?_;refine RV.done ?_;refine CV.cond rfl (fun hc=>?_) (fun hc=>False.elim (by simp at hc));refine sr rfl ?_;refine xn ?_;refine xn ?_;refine RV.done ?_;refine CV.ret ?_;exact lK rfl (.inr rfl) rfl rfl (zP nX nX)
section
variable (p q:List Rat) (B:Nat) (U:List (Option Rat)) (R:List Rat) (hB:B<=300000) (hp:p.length<=1000000) (hq:q.length<=1000000) (hq0:q≠[]) (h:kJ B q (p.length+2) (List.replicate (p.length+1-q.length) none) p=some (U,R))
include hB hp hq hq0 h
theorem aU2:aD Tryz.prog 134 [PL p B,PL q B] (.tup [PL (U.map fun o=>o.getD 0) B,PL R B]):=by
 have hql:0<q.length:=List.length_pos_iff.2 hq0;refine aD.of (n:=43) Tryz.func134 rfl rfl rfl rfl rfl fun cx hfr=>?_;refine sr rfl ?_;refine xn ?_;refine xn ?_;refine RV.done ?_;refine CV.seq ?_;refine sr rfl ?_;refine xm ?_;refine p1 (bH aV bC) ?_;refine p1 (cQ) ?_;refine RV.done ?_;refine CV.cond rfl (fun hc=>False.elim (by simp at hc; exact hq0 hc)) (fun hc=>?_);refine CV.skip ?_;refine sr rfl ?_;refine xm ?_;refine p1 (bH aV bC) ?_;refine xm ?_;refine p1 (bH aV bC) ?_;refine p1 (dM (c:=(p.length:Int)-q.length) (by rw[bF (by omega) (by omega)]) rfl rfl bd rfl rfl) ?_;refine p1 (cC (c:=(p.length:Int)-q.length+1) (by rw[bF (by omega) (by omega)]) rfl rfl bd rfl rfl) ?_;refine p1 (wC (c:=((p.length+1-q.length:Nat):Int)) (by split<;>omega) rfl rfl bd rfl rfl) ?_;refine p2 (wD (r:=19) (Nat.le_refl _) (by omega) (by omega) bC fZ rfl rfl rfl rfl bd rfl rfl rfl rfl rfl) ?_;refine xm ?_;refine xn ?_;refine xn ?_;refine RV.done ?_;refine CV.seq ?_;refine CV.block ?_;refine CV.loop (X:={s:Nat × List (Option Rat) × List Rat // kJ B q s.1 s.2.1 s.2.2=some (U,R)/\s.2.1.length=p.length+1-q.length/\s.2.2.length<=p.length}) (fun s=>[(.s 7,.av (.one (PL s.1.2.2 B))),(.s 6,.av (.one (.sl 19 (p.length+1-q.length)))),(.b 19,.row 31 (some 4) (oF s.1.2.1 B)),(.s 1,.av (.one (PL q B)))]) (fun s=>s.1.2.2.length) ⟨(p.length+2,List.replicate (p.length+1-q.length) none,p),h,by rw[List.length_replicate],Nat.le_refl _⟩ (aZ.mk ⟨aB _,aB _,eE aTd,aB _,trivial⟩ rfl rfl) (fun s=>?_);obtain⟨⟨n,u,r⟩,hs,hu,hr⟩:=s;simp only at hs hu hr |-;refine CV.seq ?_;refine sr rfl ?_;refine xm ?_;refine p1 (bH aV bC) ?_;refine xm ?_;refine p1 (bH aV bC) ?_;refine p1 (rT) ?_;refine RV.done ?_;refine CV.cond rfl (fun hc=>?_) (fun hc=>?_)
 ·have hle:q.length<=r.length:=(by have:=of_decide_eq_true hc; omega)
  obtain⟨m,hs1,hs2,hs3⟩:=aIi hs hle;have hrl:=aS6 r q (aH r/aH q);refine CV.skip ?_;refine CV.block ?_;refine sr rfl ?_;refine xm ?_;refine xm ?_;refine xd rfl ((aHp r q B B (by omega) (by omega) (by omega) hq).mono (fun _ _ _ _ h=>h) (dR hs1)) Tryz.func128 (xb rfl rfl) hfr ?_;refine p2 (aU (i:=0) bY) ?_;refine p1 (aP (aC).2) ?_;refine RV.done (sr rfl ?_);refine xm ?_;refine xm ?_;refine p1 (bH aV bC) ?_;refine xm ?_;refine p1 (bH aV bC) ?_;refine p1 (dM (c:=((r.length-q.length:Nat):Int)) (by rw[bF (by omega) (by omega)]; omega) rfl rfl bd rfl rfl) ?_;refine p1 (aJ aC) ?_;refine p1 (mR (i:=r.length-q.length) (by omega) (by rw[aB0]; omega) bC cF rfl rfl bd rfl rfl rfl) ?_;refine p1 (sX (i:=r.length-q.length) (by rw[aB0]; omega) (by show 0<4; decide) cF (.inl rfl) rfl rfl rfl rfl rfl rfl rfl rfl rfl) ?_;refine RV.done ?_;refine CV.region rfl (fun h=>nomatch h) ?_;refine xm ?_;refine xm ?_;refine p1 (aJ aC) ?_;refine xd rfl ((aGr r q (aH r/aH q) B B B (by omega) (by omega) (by omega) (by omega) hle).mono (fun _ _ _ _ h=>h) (dG hs2)) Tryz.func129 (.cons rfl cS.any (xb rfl rfl)) hfr ?_;refine xn ?_;refine RV.done ?_;exact⟨⟨(m,u.set (r.length-q.length) (some (aH r/aH q)),eB r q (aH r/aH q)),hs3,by rw[List.length_set]; exact hu,by show (eB r q (aH r/aH q)).length<=p.length; omega⟩,aZ.mk ⟨aB _,aB _,eE aVm,aB _,trivial⟩ rfl rfl,by show (eB r q (aH r/aH q)).length<r.length; omega⟩
 ·refine CV.exit ?_;refine CV.seq ?_;have hX:=aJ1 hs (by have:=of_decide_eq_false hc; omega);obtain⟨rfl,rfl⟩:U=u/\R=r:=(Prod.mk.inj hX)
  refine iK (r:=19) (t:=6) (G:=Dm.gen (bO (some 4) (oF U B))) (cx.bw hfr) rfl rfl (by rw[aB0]; exact hu.symm) rfl rfl (cG _ _) (gR _ _) ?_;refine CV.region rfl (fun h=>nomatch h) ?_;refine xm ?_;refine xm ?_;refine xn ?_;refine xn ?_;refine RV.done ?_;refine CV.ret ?_;exact lK rfl (.inr rfl) rfl rfl (zP aW2 (fun _ _ _ _ h=>h))
end
theorem zC (p q:List Rat) (B:Nat) {U R:List Rat} (hB:B<=300000) (hp:p.length<=1000000) (hq:q.length<=1000000) (h:dV B p q=some (U,R)):aD Tryz.prog 134 [PL p B,PL q B] (.tup [PL U B,PL R B]):=by
 unfold dV at h;by_cases h0:q=[]
 ·rw[if_pos h0] at h;injection h with h;obtain⟨rfl,rfl⟩:=Prod.mk.inj h;subst h0;exact aU3 p B B
 ·rw[if_neg h0] at h;obtain⟨⟨u,r⟩,h1,h2⟩:=Option.map_eq_some_iff.1 h;obtain⟨rfl,rfl⟩:=Prod.mk.inj h2;exact aU2 p q B u r hB hp hq h0 h1
abbrev wR (z:Int):Rat:=Rat.divInt z 1
theorem w_num (z:Int):(wR z).num=z:=(aBn z).1
theorem aYc (z:Int):qd (wR z)=0:=by
 have h:=(aBn z).2;have h1:(Rat.divInt z 1).den=1:=by omega
 show (if (Rat.divInt z 1).den=1 then (0:Int) else _)=0;rw[if_pos h1]
section
variable {cx:Cx Dm} {n:Nat} {σ:St Dm} {o:Oper} {d:Nat} {x:Operand}
theorem aB1 {p:Int} {k:Nat} (ho:o.op=.build 31 #[(0,x)]) (hd:o.dst=some d) (hn:d<n) (hx:opd σ x=.av (.one (.d (.int p k)))):aM Tryz.prog cx n σ o (bG x) [(.s d,.av (.one (RT (wR p) k)))]:=by
 have h:=rA (cx:=cx) ho hd hn hx;show aM _ _ _ _ _ _ [(.s d,.av (.one (.d (Dm.rt (wR p).num (qd (wR p)) k))))];rw[w_num,aYc];exact h
end
theorem aHy (a:Rat) (K:Nat):aD Tryz.prog 126 [RT a K] (.tup [RT (wR a.num) K,RT (wR (a.den:Int)) (K+3)]):=by
 refine aD.of (n:=10) Tryz.func126 rfl rfl rfl rfl rfl fun cx hfr=>?_;refine sr rfl ?_;refine p2 (bZ (i:=0)) ?_;refine p2 (aU (i:=1) bY) ?_;refine p2 (aU (i:=2) bY) ?_;refine RV.done ?_;refine CV.seq ?_;refine CV.region rfl (fun _=>by kernel_rfl) ?_;refine p1 (bI dF) ?_;refine p1 (bJ 0 dE aK) ?_;refine p1 (aB1 rfl rfl bd rfl) ?_;refine p1 (aJ aC) ?_;refine xc (iB _ _) Tryz.func102 (xa rfl) hfr ?_;refine p1 (aB1 rfl rfl bd rfl) ?_;refine p1 (aP (aC).2) ?_;refine p1 (aP (aC).2) ?_;refine bQ (by kernel_rfl) ?_;refine CV.ret ?_;exact lK rfl (.inr rfl) ⟨_,_,_,_,_,rfl,rfl,rfl,aC⟩ ⟨_,_,_,_,_,rfl,rfl,rfl,aC⟩ rO
def fM (q p:List Rat):Rat:=aH p/aH q
def jM (q p:List Rat):List Rat:=aT p (wR ((fM q p).den:Int))
def mulN (q p:List Rat):List Rat:=eB (jM q p) q (wR (fM q p).num)
def uI (B:Nat) (q p:List Rat):Bool:=(aG [fM q p] B&&aG (jM q p) B)&&(aG (mulN q p) B&&(decide (q.length<=(jM q p).length)&&decide ((mulN q p).length<p.length)))
theorem aJj {B:Nat} {q p:List Rat} (h:uI B q p=true):aG [fM q p] B=true/\aG (jM q p) B=true/\aG (mulN q p) B=true/\q.length<=(jM q p).length/\(mulN q p).length<p.length:=by
 unfold uI at h;rw[Bool.and_eq_true,Bool.and_eq_true,Bool.and_eq_true,Bool.and_eq_true] at h;exact⟨h.1.1,h.1.2,h.2.1,of_decide_eq_true h.2.2.1,of_decide_eq_true h.2.2.2⟩
def kY (B:Nat) (q:List Rat):Nat->List Rat->Option (List Rat)
 | 0,_=>none
 | n+1,p=>if q.length<=p.length then (if uI B q p=true then kY B q n (mulN q p) else none) else some p
theorem aRk {B n:Nat} {q p R:List Rat} (h:kY B q n p=some R) (hl:q.length<=p.length):uI B q p=true/\∃ m,kY B q m (mulN q p)=some R:=by
 cases n with
 | zero=>cases h
 | succ n =>
  rw[kY,if_pos hl] at h;split at h
  ·rename_i h2; exact⟨h2,n,h⟩
  ·cases h
theorem aTx {B n:Nat} {q p R:List Rat} (h:kY B q n p=some R) (hl:¬ q.length<=p.length):R=p:=by
 cases n with
 | zero=>cases h
 | succ n =>
  rw[kY,if_neg hl] at h;injection h with h;exact h.symm
theorem mN (p:List Rat) (a:Rat):(aT p a).length<=p.length:=by
 unfold aT;refine Nat.le_trans (iH _) ?_;rw[eW];exact Nat.le_refl _
section
variable (p q R:List Rat) (B n:Nat) (hB:B<=300000) (hp:p.length<=1000000) (hq:q.length<=1000000) (h:kY B q n p=some R)
include hB hp hq h
theorem aOf:aD Tryz.prog 81 [PL p B,PL q B] (.one (PL R B)):=by
 refine aD.of (n:=26) Tryz.func81 rfl rfl rfl rfl rfl fun cx hfr=>?_;refine sr rfl ?_;refine xn ?_;refine RV.done ?_;refine CV.seq ?_;refine CV.block ?_;refine CV.loop (X:={s:Nat × List Rat // kY B q s.1 s.2=some R/\s.2.length<=p.length}) (fun s=>[(.s 0,.av (.one (PL s.1.2 B))),(.s 1,.av (.one (PL q B)))]) (fun s=>s.1.2.length) ⟨(n,p),h,Nat.le_refl _⟩ (aZ.mk ⟨aB _,aB _,trivial⟩ rfl rfl) (fun s=>?_);obtain⟨⟨n,r⟩,hs,hr⟩:=s;simp only at hs hr |-;refine CV.seq ?_;refine sr rfl ?_;refine xm ?_;refine p1 (bH aV bC) ?_;refine xm ?_;refine p1 (bH aV bC) ?_;refine p1 (rT) ?_;refine RV.done ?_;refine CV.cond rfl (fun hc=>?_) (fun hc=>?_)
 ·have hle:q.length<=r.length:=(by have:=of_decide_eq_true hc; omega)
  obtain⟨hok,m,hs2⟩:=aRk hs hle;obtain⟨o1,o2,o3,o4,o5⟩:=aJj hok;have hsl:=mN r (wR ((fM q r).den:Int));refine CV.skip ?_;refine CV.block ?_;refine sr rfl ?_;refine xm ?_;refine xm ?_;refine xd rfl ((aHp r q B B (by omega) (by omega) (by omega) hq).mono (fun _ _ _ _ h=>h) (dR o1)) Tryz.func128 (xb rfl rfl) hfr ?_;refine xc (aHy (fM q r) B) Tryz.func126 (xa rfl) hfr ?_;refine xm ?_;refine p1 (cL) ?_;refine p1 (cL) ?_;refine p2 (aU (i:=0) bY) ?_;refine p2 (aU (i:=1) bY) ?_;refine p1 (aP (aC).2) ?_;refine p1 (aP (aC).2) ?_;refine RV.done ?_;refine CV.region rfl (fun _=>by kernel_rfl) ?_;refine xm ?_;refine p1 (aJ aC) ?_;refine xd rfl ((sP r (wR ((fM q r).den:Int)) B (B+3) (by omega) (by omega) (by omega)).mono (fun _ _ _ _ h=>h) (dG o2)) Tryz.func38 (xb rfl rfl) hfr ?_;refine xm ?_;refine p1 (aJ aC) ?_;refine xd rfl ((aGr (jM q r) q (wR (fM q r).num) B B B (by omega) (by omega) (by omega) (by show (aT r _).length<=_; omega) o4).mono (fun _ _ _ _ h=>h) (dG o3)) Tryz.func129 (.cons rfl cS.any (xb rfl rfl)) hfr ?_;refine xn ?_;refine bQ (by kernel_rfl) ?_;exact⟨⟨(m,mulN q r),hs2,by show (mulN q r).length<=p.length; omega⟩,aZ.mk ⟨aB _,aB _,trivial⟩ rfl rfl,o5⟩
 ·refine CV.exit ?_;refine CV.seq ?_;have hX:=aTx hs (by have:=of_decide_eq_false hc; omega);subst hX;refine CV.region rfl (fun h=>nomatch h) ?_;refine xm ?_;refine xn ?_;refine RV.done ?_;refine CV.ret ?_;exact aQ rfl (.inr rfl) rfl cE
end
theorem aJk {B:Nat} {q:List Rat}:∀ {n:Nat} {p R:List Rat},kY B q n p=some R->R.length<=p.length
 | 0,_,_,h=>by cases h
 | n+1,p,R,h=>by
  rw[kY] at h;split at h
  ·split at h
   ·rename_i h2;have:=aJk h;have:=(aJj h2).2.2.2.2;omega
   ·cases h
  ·injection h with h;subst h;exact Nat.le_refl _
def gJ (B:Nat):List Rat->Rat->Option Rat
 | [],d=>some d
 | a::l,d=>if (aG [a/d] B&&aG [d/wR ((a/d).den:Int)] B)=true then gJ B l (d/wR ((a/d).den:Int)) else none
theorem aGu {B:Nat} {a d D:Rat} {l:List Rat} (h:gJ B (a::l) d=some D):aG [a/d] B=true/\aG [d/wR ((a/d).den:Int)] B=true/\gJ B l (d/wR ((a/d).den:Int))=some D:=by
 rw[gJ] at h;split at h
 ·rename_i h2;rw[Bool.and_eq_true] at h2;exact⟨h2.1,h2.2,h⟩
 ·cases h
theorem aIg {l:List Rat} {k:Nat} (h:k<l.length):l.drop k=l.getD k 0::l.drop (k+1):=by
 rw[List.drop_eq_getElem_cons h];simp[List.getD_eq_getElem?_getD,List.getElem?_eq_getElem h]
section
variable (p:List Rat) (D:Rat) (B:Nat) (hB:B<=300000) (hp:p.length<=1000000) (h:gJ B p (aH p)=some D) (h1:aG [1/D] B=true) (h2:aG (aT p (1/D)) B=true)
include hB hp h h1 h2
theorem aN1:aD Tryz.prog 80 [PL p B] (.one (PL (aT p (1/D)) B)):=by
 refine aD.of (n:=31) Tryz.func80 rfl rfl rfl rfl rfl fun cx hfr=>?_;refine sr rfl ?_;refine xn ?_;refine RV.done (sr rfl ?_);refine xm ?_;refine xc (vV _ _ hp) Tryz.func125 (xa rfl) hfr ?_;refine p2 (aU (i:=0) bY) ?_;refine p1 (aP (aC).2) ?_;refine RV.done ?_;refine CV.seq ?_;refine sr rfl ?_;refine xm ?_;refine p1 (bH aV bC) ?_;refine xm ?_;refine RV.done ?_;refine CV.block ?_;refine CV.loop (X:={s:Nat × Rat // s.1<=p.length/\gJ B (p.drop s.1) s.2=some D}) (fun s=>[(.s 12,.av (.one (.v (.int .i64 (s.1.1:Int))))),(.s 11,.av (.one (.v (.int .i64 (p.length:Int))))),(.s 10,.av (.one (PL p B))),(.s 0,.av (.one (PL p B))),(.s 3,.av (.one (.ptr 0 0))),(.b 0,.blk 31 [(some 4,RT s.1.2 B)])]) (fun s=>p.length-s.1.1) ⟨(0,aH p),Nat.zero_le _,h⟩ (aZ.mk ⟨aB _,aB _,aB _,aB _,aB _,aB _,trivial⟩ rfl rfl) (fun s=>?_);obtain⟨⟨k,e⟩,hk,hs⟩:=s;simp only at hk hs |-;refine sr rfl ?_;refine p1 (cM) ?_;refine RV.done ?_;refine CV.seq ?_;refine CV.cond rfl (fun hc=>?_) (fun hc=>?_)
 ·have hlt:k<p.length:=(by have:=of_decide_eq_true hc; omega)
  rw[aIg hlt] at hs;obtain⟨o1,o2,o3⟩:=aGu hs;refine CV.skip ?_;refine CV.seq ?_;refine CV.block ?_;refine sr rfl ?_;refine p1 (cH (k:=some 4) (i:=k) (dZ hlt) bC cF) ?_;refine p1 (bL aC) ?_;refine p2 (aU (i:=1) bY) ?_;refine p1 (aP (aC).2) ?_;refine RV.done (sr rfl ?_);refine p1 (aJ aC) ?_;refine p1 (aJ aC) ?_;refine xd rfl ((oQ (p.getD k 0) e B B (by omega) (by omega)).mono (fun _ _ _ _ h=>h) (dR o1)) Tryz.func53 (xb rfl rfl) hfr ?_;refine xc (aHy (p.getD k 0/e) B) Tryz.func126 (xa rfl) hfr ?_;refine xm ?_;refine p1 (cL) ?_;refine p1 (cL) ?_;refine p2 (aU (i:=2) bY) ?_;refine p2 (aU (i:=3) bY) ?_;refine p1 (aP (aC).2) ?_;refine p1 (aP (aC).2) ?_;refine RV.done ?_;refine CV.region rfl (fun h=>nomatch h) ?_;refine p1 (aJ aC) ?_;refine p1 (aJ aC) ?_;refine xd rfl ((oQ e (wR ((p.getD k 0/e).den:Int)) B (B+3) (by omega) (by omega)).mono (fun _ _ _ _ h=>h) (dR o2)) Tryz.func53 (xb rfl rfl) hfr ?_;refine p1 (aP (aC).2) ?_;refine RV.done ?_;refine CV.region rfl (fun h=>nomatch h) ?_;refine p1 (cC (c:=((k+1:Nat):Int)) (by rw[bF (by omega) (by omega)]; omega) rfl rfl bd rfl rfl) ?_;refine xm ?_;refine RV.done ?_;exact⟨⟨(k+1,e/wR ((p.getD k 0/e).den:Int)),hlt,o3⟩,aZ.mk ⟨aB _,aB _,aB _,aB _,aB _,aB _,trivial⟩ rfl rfl,by show p.length-(k+1)<p.length-k; omega⟩
 ·refine CV.exit ?_;refine CV.seq ?_;have hkp:k=p.length:=(by have:=of_decide_eq_false hc; omega)
  rw[hkp,List.drop_length,gJ] at hs;obtain rfl:=Option.some.inj hs;refine CV.region rfl (fun h=>nomatch h) ?_;refine xm ?_;refine p1 (aJ aC) ?_;refine xd rfl ((aGd _ _ (by omega)).mono (fun _ _ _ _ h=>h) (dR h1)) Tryz.func127 (xa rfl) hfr ?_;refine xd rfl ((sP p (1/e) B B (by omega) (by omega) hp).mono (fun _ _ _ _ h=>h) (dG h2)) Tryz.func38 (xb rfl rfl) hfr ?_;refine xn ?_;refine RV.done ?_;refine CV.ret ?_;exact aQ rfl (.inr rfl) rfl cE
end
def jL (B:Nat) (p:List Rat):Option (List Rat):=(gJ B p (aH p)).bind fun D=>if (aG [1/D] B&&aG (aT p (1/D)) B)=true then some (aT p (1/D)) else none
theorem aI7 {B:Nat} {p R:List Rat} (h:jL B p=some R):∃ D,gJ B p (aH p)=some D/\aG [1/D] B=true/\aG (aT p (1/D)) B=true/\R=aT p (1/D):=by
 unfold jL at h;obtain⟨D,h1,h2⟩:=Option.bind_eq_some_iff.1 h;split at h2
 ·rename_i h3;rw[Bool.and_eq_true] at h3;injection h2 with h2;exact⟨D,h1,h3.1,h3.2,h2.symm⟩
 ·cases h2
theorem aHw {B:Nat} {p R:List Rat} (h:jL B p=some R):R.length<=p.length:=by
 obtain⟨D,_,_,_,rfl⟩:=aI7 h;exact mN _ _
theorem aBf (p R:List Rat) (B:Nat) (hB:B<=300000) (hp:p.length<=1000000) (h:jL B p=some R):aD Tryz.prog 80 [PL p B] (.one (PL R B)):=by
 obtain⟨D,h1,h2,h3,rfl⟩:=aI7 h;exact aN1 p D B hB hp h1 h2 h3
def jN (B:Nat):Nat->List Rat->List Rat->Option (List Rat)
 | 0,_,_=>none
 | n+1,p,q=>if 0<q.length then (kY B q (p.length+2) p).bind (fun r=>(jL B r).bind fun s=>if s.length<q.length then jN B n q s else none) else some p
theorem aRr {B n:Nat} {p q R:List Rat} (h:jN B n p q=some R) (hl:0<q.length):∃ m r s,kY B q (p.length+2) p=some r/\jL B r=some s/\s.length<q.length/\jN B m q s=some R:=by
 cases n with
 | zero=>cases h
 | succ n =>
  rw[jN,if_pos hl] at h;obtain⟨r,h1,h⟩:=Option.bind_eq_some_iff.1 h;obtain⟨s,h2,h⟩:=Option.bind_eq_some_iff.1 h;split at h
  ·rename_i h3; exact⟨n,r,s,h1,h2,h3,h⟩
  ·cases h
theorem aT4 {B n:Nat} {p q R:List Rat} (h:jN B n p q=some R) (hl:¬ 0<q.length):R=p:=by
 cases n with
 | zero=>cases h
 | succ n =>
  rw[jN,if_neg hl] at h;injection h with h;exact h.symm
section
variable (p q pa qa R:List Rat) (B n:Nat) (hB:B<=300000) (hp:p.length<=1000000) (hq:q.length<=1000000) (h1:jL B p=some pa) (h2:jL B q=some qa) (h:jN B n pa qa=some R) (hm:aG (bA R) B=true)
include hB hp hq h1 h2 h hm
theorem aU0:aD Tryz.prog 34 [PL p B,PL q B] (.one (PL (bA R) B)):=by
 have hpa:=aHw h1;have hqa:=aHw h2;refine aD.of (n:=19) Tryz.func34 rfl rfl rfl rfl rfl fun cx hfr=>?_;refine sr rfl ?_;refine xn ?_;refine RV.done (sr rfl ?_);refine xm ?_;refine xc (aBf p pa B hB hp h1) Tryz.func80 (xa rfl) hfr ?_;refine xm ?_;refine xc (aBf q qa B hB hq h2) Tryz.func80 (xa rfl) hfr ?_;refine xn ?_;refine xn ?_;refine RV.done ?_;refine CV.seq ?_;refine CV.block ?_;refine CV.loop (X:={s:Nat × List Rat × List Rat // jN B s.1 s.2.1 s.2.2=some R/\s.2.1.length<=1000000/\s.2.2.length<=1000000}) (fun s=>[(.s 0,.av (.one (PL s.1.2.1 B))),(.s 1,.av (.one (PL s.1.2.2 B)))]) (fun s=>s.1.2.2.length) ⟨(n,pa,qa),h,by show pa.length<=_; omega,by show qa.length<=_; omega⟩ (aZ.mk ⟨aB _,aB _,trivial⟩ rfl rfl) (fun s=>?_);obtain⟨⟨n,r,s⟩,hs,hr,hs1⟩:=s;simp only at hs hr hs1 |-;refine CV.seq ?_;refine sr rfl ?_;refine xm ?_;refine p1 (bH aV bC) ?_;refine p1 (gH) ?_;refine RV.done ?_;refine CV.cond rfl (fun hc=>?_) (fun hc=>?_)
 ·have hlt:0<s.length:=(by have:=of_decide_eq_true hc; omega)
  obtain⟨m,r1,s1,o1,o2,o3,o4⟩:=aRr hs hlt;have hrl:=aJk o1;refine CV.skip ?_;refine CV.block ?_;refine CV.region rfl (fun h=>nomatch h) ?_;refine xm ?_;refine xm ?_;refine xm ?_;refine xc (aOf r s r1 B _ hB hr hs1 o1) Tryz.func81 (xb rfl rfl) hfr ?_;refine xd rfl (aBf r1 s1 B hB (by omega) o2) Tryz.func80 (xa rfl) hfr ?_;refine xn ?_;refine xn ?_;refine RV.done ?_;exact⟨⟨(m,s,s1),o4,hs1,by show s1.length<=_; omega⟩,aZ.mk ⟨aB _,aB _,trivial⟩ rfl rfl,o3⟩
 ·refine CV.exit ?_;refine CV.seq ?_;have hX:=aT4 hs (by have:=of_decide_eq_false hc; omega);subst hX;refine CV.region rfl (fun h=>nomatch h) ?_;refine xm ?_;refine xd rfl ((aH3 R B (by omega) hr).mono (fun _ _ _ _ h=>h) (dG hm)) Tryz.func82 (xa rfl) hfr ?_;refine xn ?_;refine RV.done ?_;refine CV.ret ?_;exact aQ rfl (.inr rfl) rfl cE
end
def nE (B:Nat) (p q:List Rat):Option (List Rat):=(jL B p).bind fun pa=>(jL B q).bind fun qa=>(jN B (p.length+q.length+3) pa qa).bind fun R=>if aG (bA R) B=true then some (bA R) else none
theorem aUy (p q G:List Rat) (B:Nat) (hB:B<=300000) (hp:p.length<=1000000) (hq:q.length<=1000000) (h:nE B p q=some G):aD Tryz.prog 34 [PL p B,PL q B] (.one (PL G B)):=by
 unfold nE at h;obtain⟨pa,h1,h⟩:=Option.bind_eq_some_iff.1 h;obtain⟨qa,h2,h⟩:=Option.bind_eq_some_iff.1 h;obtain⟨R,h3,h⟩:=Option.bind_eq_some_iff.1 h;split at h
 ·rename_i hm;injection h with h;subst h;exact aU0 p q pa qa R B _ hB hp hq h1 h2 h3 hm
 ·cases h
section
variable (p G U R:List Rat) (B:Nat) (hB:B<=300000) (hp:p.length<=1000000) (h0:aG (cJ p) B=true) (h1:nE B p (cJ p)=some G) (hG:G.length<=1000000) (h2:dV B p G=some (U,R)) (hU:U.length<=1000000) (hm:aG (bA U) B=true)
include hB hp h0 h1 h2 hG hU hm
theorem aSj:aD Tryz.prog 94 [PL p B] (.one (PL (bA U) B)):=by
 have hdl:(cJ p).length<=p.length-1:=(by unfold cJ; exact Nat.le_trans (iH _) (by rw[eW]; exact Nat.le_refl _))
 refine aD.of (n:=16) Tryz.func94 rfl rfl rfl rfl rfl fun cx hfr=>?_;refine sr rfl ?_;refine xn ?_;refine RV.done (sr rfl ?_);refine xm ?_;refine xm ?_;refine xm ?_;refine xd rfl ((aGh p B (by omega) hp).mono (fun _ _ _ _ h=>h) (dG h0)) Tryz.func96 (xa rfl) hfr ?_;refine xd rfl (aUy p (cJ p) G B hB hp (by omega) h1) Tryz.func34 (xb rfl rfl) hfr ?_;refine xc (zC p G B hB hp hG h2) Tryz.func134 (xb rfl rfl) hfr ?_;refine xm ?_;refine p1 (cL) ?_;refine p1 (cL) ?_;refine xn ?_;refine xn ?_;refine RV.done (sr rfl ?_);refine xm ?_;refine xd rfl ((aH3 U B (by omega) hU).mono (fun _ _ _ _ h=>h) (dG hm)) Tryz.func82 (xa rfl) hfr ?_;refine xn ?_;refine RV.done ?_;refine CV.ret ?_;exact aQ rfl (.inr rfl) rfl cE
end
def kW (B:Nat) (p:List Rat):Option (List Rat):=if aG (cJ p) B=true then (nE B p (cJ p)).bind fun G=>(dV B p G).bind fun x=>if (decide (G.length<=1000000)&&(decide (x.1.length<=1000000)&&aG (bA x.1) B))=true then some (bA x.1) else none else none
theorem aCs (p F:List Rat) (B:Nat) (hB:B<=300000) (hp:p.length<=1000000) (h:kW B p=some F):aD Tryz.prog 94 [PL p B] (.one (PL F B)):=by
 unfold kW at h;split at h
 ·rename_i h0;obtain⟨G,h1,h⟩:=Option.bind_eq_some_iff.1 h;obtain⟨⟨U,R⟩,h2,h⟩:=Option.bind_eq_some_iff.1 h;split at h
  ·rename_i hm;rw[Bool.and_eq_true,Bool.and_eq_true] at hm;injection h with h;subst h;exact aSj p G U R B hB hp h0 h1 (of_decide_eq_true hm.1) h2 (of_decide_eq_true hm.2.1) hm.2.2
  ·cases h
 ·cases h
theorem aQh (p:List Rat) (K:Nat) (hK:K<=1000000) (hp:p.length<=1000000):aD Tryz.prog 65 [PL p K] (.one (.v (.bool (decide (¬ (p≠[]/\aH p=0)))))):=by
 refine aD.of (n:=18) Tryz.func65 rfl rfl rfl rfl rfl fun cx hfr=>?_;refine sr rfl ?_;refine xn ?_;refine RV.done ?_;refine CV.seq ?_;refine sr rfl ?_;refine xm ?_;refine p1 (bH aV bC) ?_;refine xm ?_;refine RV.done ?_;refine CV.block ?_;refine CV.loop (X:={k:Nat // k<=p.length}) (fun k=>[(.s 7,.av (.one (.v (.int .i64 (k.1:Int))))),(.s 6,.av (.one (.v (.int .i64 (p.length:Int))))),(.s 5,.av (.one (PL p K))),(.s 0,.av (.one (PL p K)))]) (fun k=>p.length-k.1) ⟨0,Nat.zero_le _⟩ (aZ.mk ⟨aB _,aB _,aB _,aB _,trivial⟩ rfl rfl) (fun k=>?_);obtain⟨k,hk⟩:=k;simp only;refine sr rfl ?_;refine p1 (cM) ?_;refine RV.done ?_;refine CV.seq ?_;refine CV.cond rfl (fun hc=>?_) (fun hc=>?_)
 ·have hlt:k<p.length:=(by have:=of_decide_eq_true hc; omega)
  refine CV.skip ?_;refine CV.seq ?_;refine CV.block ?_;refine sr rfl ?_;refine p1 (cH (k:=some 4) (i:=k) (dZ hlt) bC cF) ?_;refine p1 (bL aC) ?_;refine p2 (aU (i:=0) bY) ?_;refine p1 (aP (aC).2) ?_;refine RV.done (sr rfl ?_);refine p1 (aJ aC) ?_;refine xd rfl (aQg _ _ (by omega)) Tryz.func114 (xa rfl) hfr ?_;refine p1 (jX) ?_;refine RV.done ?_;refine CV.no rfl ?_;refine CV.skip ?_;refine CV.region rfl (fun h=>nomatch h) ?_;refine p1 (cC (c:=((k+1:Nat):Int)) (by rw[bF (by omega) (by omega)]; omega) rfl rfl bd rfl rfl) ?_;refine xm ?_;refine RV.done ?_;exact⟨⟨k+1,hlt⟩,aZ.mk ⟨aB _,aB _,aB _,aB _,trivial⟩ rfl rfl,by show p.length-(k+1)<p.length-k; omega⟩
 ·refine CV.exit ?_;refine sr rfl ?_;refine xm ?_;refine xc (aPu _ _ hp) Tryz.func115 (xa rfl) hfr ?_;refine p1 (jX) ?_;refine xn ?_;refine RV.done ?_;refine CV.ret ?_;exact aQ rfl (.inr rfl) rfl (fY (by rw[decide_not]))
end Vc
end Go.Proofs.YtjmbkipbmbnhjaaGreat
