/-
  
-/
import Derived.Test.YtjmbkipbmbnhjaaGreatSM38
import Derived.Test.YtjmbkipbmbnhjaaGreatSM37
import Derived.Test.YtjmbkipbmbnhjaaGreatSM3
import Derived.Test.YtjmbkipbmbnhjaaGreatSM9
import Derived.Test.YtjmbkipbmbnhjaaGreatSM36
set_option linter.unusedVariables false
set_option linter.unusedSimpArgs false
set_option linter.unusedSectionVars false
namespace Go.Proofs.YtjmbkipbmbnhjaaGreat
open Dg Zn Tx
namespace Tx
/-! Codes. -/
/-! Fractions. -/
open Vc
end Tx
end Go.Proofs.YtjmbkipbmbnhjaaGreat

namespace Go.Proofs.YtjmbkipbmbnhjaaGreat
open Go.RowKit
open Go.Lib (hid)
open Dg Zn Tx
namespace Vc
section
variable {D:Type} [bL D] {P:Program} {cx:Cx D} {n:Nat} {σ:St D} {o:Oper} {d:Nat} {x y:Operand} {T T':TypeId} {k:IntKind} {a b:Int}
theorem aLn {r:Bool} (h:decide (a<b)=r) (ho:o.op=.binOp .lss T x y T') (hd:o.dst=some d) (hn:d<n) (hx:opd σ x=.av (.one (.v (.int k a)))) (hy:opd σ y=.av (.one (.v (.int k b)))):aM P cx n σ o (bE x++bE y) [(.s d,.av (.one (.v (.bool r))))]:=by
 have q:=dU (P:=P) (cx:=cx) ho hd hn hx hy;rwa[h] at q
end
end Vc
end Go.Proofs.YtjmbkipbmbnhjaaGreat

namespace Go.Proofs.YtjmbkipbmbnhjaaGreat
open Go.RowKit
open Dg Zn
namespace Vc
def aI:List Rat->List Rat
 | []=>[]
 | a::l=>if aI l=[] then (if a=0 then [] else [a]) else a::aI l
theorem qX (l:List Rat) (a:Rat):aI (l++[a])=if a=0 then aI l else l++[a]:=by
 induction l with
 | nil=>show (if aI []=[] then _ else _)=_; rfl
 | cons b l ih =>
  rw[List.cons_append,aI,ih];by_cases h:a=0
  ·rw[if_pos h,if_pos h,aI]
  ·rw[if_neg h,if_neg h,if_neg (by simp)]
theorem aB4 (l:List Rat):aI l=l.take (aI l).length:=by
 induction l with
 | nil=>rfl
 | cons a l ih =>
  rw[aI];by_cases h:aI l=[]
  ·rw[if_pos h];split
   ·rfl
   ·rfl
  ·rw[if_neg h,List.length_cons,List.take_succ_cons,<- ih]
theorem iL (l:List Rat):(aI l).length<=l.length:=by
 rw[aB4];exact List.length_take_le' _ _
theorem aG3 (l:List Rat):aI l=[]\/(aI l).getD ((aI l).length-1) 0≠0:=by
 induction l with
 | nil=>exact .inl rfl
 | cons a l ih =>
  rw[aI];by_cases h:aI l=[]
  ·rw[if_pos h];by_cases h0:a=0
   ·rw[if_pos h0]; exact .inl rfl
   ·rw[if_neg h0]; exact .inr h0
  ·rw[if_neg h]
   right
   have:=ih.resolve_left h;have hl:0<(aI l).length:=List.length_pos_iff.2 h;rw[List.length_cons,Nat.add_sub_cancel];obtain⟨m,hm⟩:∃ m,(aI l).length=m+1:=⟨(aI l).length-1,by omega⟩
   rw[hm] at this |-;simpa using this
def bN (l:List Rat) (K:Nat):List (SA Dm):=l.map fun a=>RT a K
abbrev PL (l:List Rat) (K:Nat):SA Dm:=.d (Dm.gen (bY (some 4) (bN l K)))
theorem bB {l:List Rat} {K:Nat}:(bN l K).length=l.length:=by simp[bN]
theorem eA {l:List Rat} {K i:Nat} (h:i<l.length):(bN l K)[i]?=some (RT (l.getD i 0) K):=by
 simp[bN,List.getElem?_eq_getElem h,List.getD_eq_getElem?_getD]
theorem zA {l:List Rat} {K:Nat}:(bN l K).flatMap SA.ptrs=[]:=by
 rw[List.flatMap_eq_nil_iff];intro s hs;obtain⟨b,_,rfl⟩:=List.mem_map.1 hs;rfl
theorem aDe {l:List Rat} {K n:Nat}:(bN l K).take n=bN (l.take n) K:=by simp[bN,List.map_take]
theorem aJ0 {l:List Rat} {K n:Nat}:(bN l K).drop n=bN (l.drop n) K:=by simp[bN,List.map_drop]
theorem aCy {l:List Rat} {K:Nat}:∀ s∈bN l K,s.plain=true:=by
 intro s hs;obtain⟨b,_,rfl⟩:=List.mem_map.1 hs;rfl
theorem aDf {l:List Rat} {K:Nat}:∀ s∈bN l K,s.kind=some (some 4):=by
 intro s hs;obtain⟨b,_,rfl⟩:=List.mem_map.1 hs;rfl
theorem aTy {f:Nat->Rat} {K m k:Nat} (h:k<m):(kD f K m (k+1))[k]?=some (RT (f k) K):=by simp[kD,h]
def tab (g:Nat->Rat) (n:Nat):List Rat:=(List.range n).map g
theorem eX {g:Nat->Rat} {n:Nat}:(tab g n).length=n:=by simp[tab]
theorem aJo {g:Nat->Rat} {n:Nat}:tab g (n+1)=tab g n++[g n]:=by simp[tab,List.range_succ]
theorem pR {g:Nat->Rat} {K n:Nat}:iB g K n=bN (tab g n) K:=by simp[iB,bN,tab]
theorem aTg (l:List Rat):tab (fun i=>l.getD i 0) l.length=l:=by
 apply List.ext_getElem
 ·simp[tab]
 ·intro i h1 h2;simp[tab,List.getD_eq_getElem?_getD,List.getElem?_eq_getElem h2]
def atR (l:List Rat) (k:Int):Rat:=if k<0 then 0 else l.getD k.toNat 0
theorem nW (l:List Rat) (k:Nat):atR l (k:Int)=l.getD k 0:=by
 unfold atR;rw[if_neg (by omega),Int.toNat_natCast]
theorem cP {l:List Rat} {k:Nat} (h:l.length<=k):l.getD k 0=0:=by
 rw[List.getD_eq_getElem?_getD,List.getElem?_eq_none h];rfl
def aH (l:List Rat):Rat:=l.getD (l.length-1) 0
theorem aUg (l:List Rat):atR l ((l.length:Int)-1)=aH l:=by
 unfold atR aH;by_cases h:l.length=0
 ·obtain rfl:=List.eq_nil_of_length_eq_zero h;rfl
 ·rw[if_neg (by omega),show ((l.length:Int)-1).toNat=l.length-1 by omega]
theorem aUb {a:Rat}:a.num=0 ↔ a=0:=Rat.num_eq_zero
theorem tS {a:Rat}:(aY a.num 0=0) ↔ a=0:=by
 rw[<- aUb];generalize a.num=z;unfold aY;split
 ·exact⟨fun h=>absurd h (by decide),fun h=>by omega⟩
 ·split
  ·exact⟨fun h=>absurd h (by decide),fun h=>by omega⟩
  ·exact⟨fun _=>by omega,fun _=>rfl⟩
def fC (p q:List Rat):List Rat:=aI (tab (fun k=>p.getD k 0+q.getD k 0) (max p.length q.length))
def fN (p q:List Rat):List Rat:=aI (tab (fun k=>p.getD k 0-q.getD k 0) (max p.length q.length))
def aN (p:List Rat) (a:Rat):List Rat:=aI (tab (fun k=>p.getD k 0*a) p.length)
def cD (p:List Rat):List Rat:=aI (tab (fun k=>p.getD (k+1) 0*((k+1:Nat):Rat)) (p.length-1))
end Vc
end Go.Proofs.YtjmbkipbmbnhjaaGreat

namespace Go.Proofs.YtjmbkipbmbnhjaaGreat
open Go.RowKit
open Go.Lib (hid)
open Dg Zn
namespace Vc
set_option maxRecDepth 100000
theorem aZ:Tryz.prog.underlying 24=some (.slice 31):=by kernel_rfl
theorem cQ:dF Tryz.prog 24 none:=dF.one (by kernel_rfl) (by kernel_rfl)
theorem aAn {a:Rat} {j k:Nat} (h:a=0) (hk:j<=k):∀ L ρ w v,(SA.d (Dm.rt 0 0 j)).is L ρ w v->(AV.one (RT a k)).is L ρ w v:=by
 subst h;exact eC (by decide) (by decide) hk
theorem pO (l:List Rat) (K:Nat) (hl:l.length<=1000000):aD Tryz.prog 51 [PL l K] (.one (.v (.int .i64 ((l.length:Int)-1)))):=by
 refine aD.of (n:=6) Tryz.func51 rfl rfl rfl rfl rfl fun cx hfr=>?_;refine sr rfl ?_;refine xn ?_;refine RV.done (sr rfl ?_);refine xm ?_;refine p1 (bJ bB aZ) ?_;refine p1 (eB (c:=(l.length:Int)-1) (by rw[bU (by omega) (by omega)]) rfl rfl bd rfl rfl) ?_;refine xn ?_;refine RV.done ?_;refine CV.ret ?_;exact aR rfl (.inr rfl) rfl cC
theorem aFo (l:List Rat) (K:Nat) (k:Int):aD Tryz.prog 132 [PL l K,.v (.int .i64 k)] (.one (RT (atR l k) K)):=by
 refine aD.of (n:=18) Tryz.func132 rfl rfl rfl rfl rfl fun cx hfr=>?_;refine sr rfl ?_;refine p2 (aU (i:=0) bX) ?_;refine RV.done ?_;refine CV.seq ?_;refine sr rfl ?_;refine xm ?_;refine p1 (dU) ?_;refine xm ?_;refine RV.bool (fun hn=>?_) (fun hn=>?_)
 ·refine xk ?_;refine xk ?_;refine xk ?_;refine xk ?_;refine p1 (cZ) ?_;refine RV.done ?_;refine CV.yes rfl ?_;refine sr rfl ?_;refine p1 (rD) ?_;refine p1 (aQ (aB).2) ?_;refine RV.done ?_;refine CV.ret ?_;exact aR rfl (.inr rfl) ⟨_,_,_,_,_,rfl,rfl,rfl,aB⟩ (aAn (by unfold atR; rw[if_pos (of_decide_eq_true hn)]) (Nat.zero_le _))
 ·obtain⟨j,rfl⟩:∃ j:Nat,k=(j:Int):=⟨k.toNat,by have:=of_decide_eq_false hn; omega⟩
  refine y1 (cE (.inl rfl)) ?_;refine y1 (cE (.inl rfl)) ?_;refine y1 (bJ bB aZ) ?_;refine y1 (rZ) ?_;refine p1 (eI) ?_;refine RV.done ?_;refine CV.cond rfl (fun hc=>?_) (fun hc=>?_)
  ·refine sr rfl ?_;refine p1 (rD) ?_;refine p1 (aQ (aB).2) ?_;refine RV.done ?_;refine CV.ret ?_;exact aR rfl (.inr rfl) ⟨_,_,_,_,_,rfl,rfl,rfl,aB⟩ (aAn (by have:=of_decide_eq_true hc; rw[nW,cP (by omega)]) (Nat.zero_le _))
  ·refine CV.skip ?_;refine sr rfl ?_;refine xm ?_;refine xm ?_;refine p1 (dB (k:=some 4) (i:=j) (eA (by have:=of_decide_eq_false hc; omega)) aZ cG rfl rfl bd rfl rfl (by decide)) ?_;refine p1 (bO aB) ?_;refine p1 (aQ (aB).2) ?_;refine RV.done ?_;refine CV.ret ?_;exact aR rfl (.inr rfl) ⟨_,_,_,_,_,rfl,rfl,rfl,aB⟩ (jI (by rw[nW]))
theorem wE (l:List Rat) (K:Nat) (hl:l.length<=1000000):aD Tryz.prog 125 [PL l K] (.one (RT (aH l) K)):=by
 refine aD.of (n:=7) Tryz.func125 rfl rfl rfl rfl rfl fun cx hfr=>?_;refine sr rfl ?_;refine p2 (aU (i:=0) bX) ?_;refine RV.done (sr rfl ?_);refine xm ?_;refine xm ?_;refine xc (pO _ _ hl) Tryz.func51 (xa rfl) hfr ?_;refine xc (aFo _ _ _) Tryz.func132 (xb rfl rfl) hfr ?_;refine p1 (aQ (aB).2) ?_;refine RV.done ?_;refine CV.ret ?_;exact aR rfl (.inr rfl) ⟨_,_,_,_,_,rfl,rfl,rfl,aB⟩ (jI (by rw[aUg]))
theorem aQd (l:List Rat) (K:Nat) (hl:l.length<=1000000):aD Tryz.prog 115 [PL l K] (.one (.v (.bool (decide (l≠[]/\aH l=0))))):=by
 refine aD.of (n:=12) Tryz.func115 rfl rfl rfl rfl rfl fun cx hfr=>?_;refine sr rfl ?_;refine xn ?_;refine RV.done (sr rfl ?_);refine xm ?_;refine p1 (bJ bB dC) ?_;refine p1 (gY) ?_;refine xm ?_;refine RV.bool (fun hn=>?_) (fun hn=>?_)
 ·refine y1 (cE (.inl rfl)) ?_;refine y1 (bR (wE _ _ hl) rfl rfl bd Tryz.func125 rfl rfl (xa rfl) rfl hfr rfl) ?_;refine y1 (bR (yR _ _) rfl rfl bd Tryz.func98 rfl rfl (xa rfl) rfl hfr rfl) ?_;refine y1 (cR) ?_;refine p1 (cZ) ?_;refine xn ?_;refine RV.done ?_;refine CV.ret ?_;have h1:l≠[]:=List.length_pos_iff.1 (by have:=of_decide_eq_true hn; omega);exact aR rfl (.inr rfl) rfl (gA (by rw[Bool.eq_iff_iff,beq_iff_eq,decide_eq_true_eq,tS]; exact⟨fun h=>⟨h1,h⟩,fun h=>h.2⟩))
 ·refine xk ?_;refine xk ?_;refine xk ?_;refine xk ?_;refine p1 (eI) ?_;refine xn ?_;refine RV.done ?_;refine CV.ret ?_;have h1:l=[]:=List.eq_nil_of_length_eq_zero (by have:=of_decide_eq_false hn; omega);exact aR rfl (.inr rfl) rfl (gA (by symm; rw[decide_eq_false_iff_not]; exact fun h=>h.1 h1))
section
variable {f : FuncId} {fn : Func} {caps : List (SA Dm)} (g : Nat -> Rat) (K N : Nat) (z : Int) (hz : N = z.toNat) (hN : z <= 1000000) (hf : Tryz.prog.funcs[f]? = some fn) (hname : (fn.name == "runtime.NumGoroutine") = false) (hb : fn.body.isSome = true) (hcon : ∀ k, k < N -> aD Tryz.prog f (.v (.int .i64 (k : Int)) :: caps) (.one (RT (g k) K)))
include hz hN hf hname hb hcon
theorem wD:aD Tryz.prog 77 [.v (.int .i64 z),.d (Dm.gen (qO f caps))] (.one (PL (aI (tab g N)) K)):=by
 refine aD.of (n:=34) Tryz.func77 rfl rfl rfl rfl rfl fun cx hfr=>?_;refine sr rfl ?_;refine xn ?_;refine RV.done (sr rfl ?_);refine xm ?_;refine p1 (tY (c:=(N:Int)) (by split<;>omega) rfl rfl bd rfl rfl) ?_;refine p2 (wH (r:=10) (Nat.le_refl _) (by omega) (by omega) aZ iO rfl rfl rfl rfl bd rfl rfl rfl rfl rfl) ?_;refine xn ?_;refine RV.done (sr rfl ?_);refine xn ?_;refine RV.done ?_;refine CV.seq ?_;refine sr rfl ?_;refine xm ?_;refine xm ?_;refine RV.done ?_;refine CV.block ?_;refine CV.loop (X:={k:Nat // k<=N}) (fun k=>[(.s 12,.av (.one (.v (.int .i64 (k.1:Int))))),(.s 11,.av (.one (.v (.int .i64 z)))),(.s 5,.av (.one (.sl 10 N))),(.b 10,.row 31 (some 4) (kD g K N k.1)),(.s 6,.av (.one (.v (.int .i64 ((aI (tab g k.1)).length:Int))))),(.s 1,.av (.one (.d (Dm.gen (qO f caps)))))]) (fun k=>N-k.1) ⟨0,Nat.zero_le _⟩ (bF.mk ⟨aC _,aC _,aC _,eO aHc,aC _,aC _,trivial⟩ rfl rfl) (fun k=>?_);obtain⟨k,hk⟩:=k;simp only;refine sr rfl ?_;refine p1 (dU) ?_;refine RV.done ?_;refine CV.seq ?_;refine CV.cond rfl (fun hc=>?_) (fun hc=>?_)
 ·have hlt:k<N:=(by have:=of_decide_eq_true hc; omega)
  refine CV.skip ?_;refine CV.seq ?_;refine CV.block ?_;refine sr rfl ?_;refine xm ?_;refine xn ?_;refine RV.done (sr rfl ?_);refine xm ?_;refine xm ?_;refine xm ?_;refine xm ?_;refine p1 (vS (sas:=[.v (.int .i64 (k:Int))]) (hcon k hlt) hf hname hb rfl rfl bd rfl (xa rfl) rfl hfr rfl) ?_;refine p1 (mP (i:=k) hlt (by rw[vE]; exact Nat.le_refl _) aZ cG rfl rfl bd rfl rfl rfl) ?_;refine p1 (sZ (i:=k) (by rw[vE]; exact hlt) (by show 0<4; decide) cG (.inl rfl) rfl rfl rfl rfl rfl rfl rfl rfl rfl) ?_;refine RV.done ?_;refine CV.seq ?_;rw[aId];refine CV.region rfl (fun h=>nomatch h) ?_;refine xm ?_;refine xm ?_;refine p1 (mP (i:=k) hlt (by rw[vE]; exact Nat.le_refl _) aZ cG rfl rfl bd rfl rfl rfl) ?_;refine p1 (tM (i:=k) (aTy hlt) rfl aB (by show 0<4; decide) rfl rfl bd rfl rfl) ?_;refine xc (yR _ _) Tryz.func98 (xa rfl) hfr ?_;refine p1 (rX) ?_;refine RV.done ?_;refine CV.cond rfl (fun h0=>?_) (fun h0=>?_)
  ·refine CV.region rfl (fun h=>nomatch h) ?_;refine xm ?_;refine p1 (cJ (c:=((k+1:Nat):Int)) (by rw[bU (by omega) (by omega)]; omega) rfl rfl bd rfl rfl) ?_;refine xn ?_;refine RV.done ?_;refine CV.region rfl (fun h=>nomatch h) ?_;refine p1 (cJ (c:=((k+1:Nat):Int)) (by rw[bU (by omega) (by omega)]; omega) rfl rfl bd rfl rfl) ?_;refine xm ?_;refine RV.done ?_;have hne:g k≠0:=(fun e=>by rw[bne_iff_ne] at h0; exact h0 (tS.2 e))
   exact⟨⟨k+1,hlt⟩,bF.mk ⟨aC _,aC _,aC _,aC _,zJ (by show (XV.av (.one (.v (.int .i64 ((k+1:Nat):Int)))):XV Dm)=.av (.one (.v (.int .i64 ((aI (tab g (k+1))).length:Int)))); rw[aJo,qX,if_neg hne,List.length_append,eX]; rfl),aC _,trivial⟩ rfl rfl,by show N-(k+1)<N-k; omega⟩
  ·refine CV.skip ?_;refine CV.region rfl (fun h=>nomatch h) ?_;refine p1 (cJ (c:=((k+1:Nat):Int)) (by rw[bU (by omega) (by omega)]; omega) rfl rfl bd rfl rfl) ?_;refine xm ?_;refine RV.done ?_;have he:g k=0:=(tS.1 (by rw[bne_eq_false_iff_eq] at h0; exact h0))
   exact⟨⟨k+1,hlt⟩,bF.mk ⟨aC _,aC _,aC _,aC _,zJ (by show (XV.av (.one (.v (.int .i64 ((aI (tab g k)).length:Int)))):XV Dm)=.av (.one (.v (.int .i64 ((aI (tab g (k+1))).length:Int)))); rw[aJo,qX,if_pos he]),aC _,trivial⟩ rfl rfl,by show N-(k+1)<N-k; omega⟩
 ·refine CV.exit ?_;refine CV.seq ?_;have hkN:k=N:=(by have:=of_decide_eq_false hc; omega)
  subst hkN;rw[aIe,pR];refine jU (r:=10) (t:=5) (G:=Dm.gen (bY (some 4) (bN (tab g k) K))) (cx.bw hfr) rfl rfl (by rw[bB,eX]) rfl rfl (cM _ _) (iF _ _) ?_;refine CV.region rfl (fun h=>nomatch h) ?_;refine xm ?_;refine xm ?_;refine xm ?_;refine p1 (wI (k:=some 4) (l':=bN (aI (tab g k)) K) none (some (aI (tab g k)).length) (some (aI (tab g k)).length) (by show ((bN (tab g k) K).take (aI (tab g k)).length).drop 0=_; rw[List.drop_zero,aDe,<- aB4]) (by decide) (Nat.zero_le _) (Nat.le_refl _) (by show (aI (tab g k)).length<=(bN (tab g k) K).length; rw[bB]; exact iL _) (fun h=>nomatch h) aZ cG rfl rfl bd rfl trivial rfl rfl) ?_;refine xn ?_;refine RV.done ?_;refine CV.ret ?_;exact aR rfl (.inr rfl) rfl cC
end
abbrev gC (l:List Rat) (K:Nat):SA Dm:=.d (Dm.gen (pG none (PL l K)))
abbrev uW (a:Rat) (K:Nat):SA Dm:=.d (Dm.gen (pG (some 4) (RT a K)))
abbrev pI (z:Int):SA Dm:=.d (Dm.gen (pG none (.v (.int .i64 z))))
theorem aVm (p q:List Rat) (j K k:Nat) (hj:j<=10000000) (hK:K<=10000000):aD Tryz.prog 131 [.v (.int .i64 (k:Int)),gC p j,gC q K] (.one (RT (p.getD k 0+q.getD k 0) (3*(j+K)+20))):=by
 refine aD.of (n:=12) Tryz.func131 rfl rfl rfl rfl rfl fun cx hfr=>?_;refine sr rfl ?_;refine p2 (aU (i:=0) bX) ?_;refine RV.done ?_;refine CV.seq ?_;refine CV.region rfl (fun _=>by kernel_rfl) ?_;refine p1 (bO cQ) ?_;refine xm ?_;refine xc (aFo _ _ _) Tryz.func132 (xb rfl rfl) hfr ?_;refine p1 (bO cQ) ?_;refine xm ?_;refine xc (aFo _ _ _) Tryz.func132 (xb rfl rfl) hfr ?_;refine xc (tV _ _ _ _ hj hK) Tryz.func56 (xb rfl rfl) hfr ?_;refine p1 (aQ (aB).2) ?_;refine bV (by kernel_rfl) ?_;refine CV.ret ?_;exact aR rfl (.inr rfl) ⟨_,_,_,_,_,rfl,rfl,rfl,aB⟩ (jI (by rw[nW,nW]))
theorem aVf (p q:List Rat) (j K:Nat) (hj:j<=10000000) (hK:K<=10000000) (hp:p.length<=1000000) (hq:q.length<=1000000):aD Tryz.prog 84 [PL p j,PL q K] (.one (PL (fC p q) (3*(j+K)+20))):=by
 refine aD.of (n:=12) Tryz.func84 rfl rfl rfl rfl rfl fun cx hfr=>?_;refine sr rfl ?_;refine p1 (jV) ?_;refine p1 (jV) ?_;refine xn ?_;refine RV.done (sr rfl ?_);refine p1 (bO cQ) ?_;refine p1 (bJ bB aZ) ?_;refine p1 (bO cQ) ?_;refine p1 (bJ bB aZ) ?_;refine p1 (tY (c:=((max p.length q.length:Nat):Int)) (by split<;>omega) rfl rfl bd rfl rfl) ?_;refine p1 (rQ (caps:=[.tmp 2,.tmp 3]) (ss:=[_,_]) rfl rfl bd (xb rfl rfl) rfl) ?_;refine xd rfl (wD (fun k=>p.getD k 0+q.getD k 0) (3*(j+K)+20) (max p.length q.length) ((max p.length q.length:Nat):Int) (by omega) (by omega) Tryz.func131 rfl rfl (caps:=[gC p j,gC q K]) (fun k _=>aVm p q j K k hj hK)) Tryz.func77 (xb rfl rfl) hfr ?_;refine xn ?_;refine RV.done ?_;refine CV.ret ?_;exact aR rfl (.inr rfl) rfl cC
theorem aQw (p:List Rat) (a:Rat) (j K k:Nat) (hj:j<=10000000) (hK:K<=10000000) (hk:k<p.length):aD Tryz.prog 86 [.v (.int .i64 (k:Int)),gC p j,uW a K] (.one (RT (p.getD k 0*a) (3*(j+K)+20))):=by
 refine aD.of (n:=11) Tryz.func86 rfl rfl rfl rfl rfl fun cx hfr=>?_;refine sr rfl ?_;refine p2 (aU (i:=0) bX) ?_;refine RV.done ?_;refine CV.seq ?_;refine CV.region rfl (fun _=>by kernel_rfl) ?_;refine p1 (bO cQ) ?_;refine xm ?_;refine p1 (dB (k:=some 4) (i:=k) (eA hk) aZ cG) ?_;refine p1 (bO aB) ?_;refine p1 (bO aB) ?_;refine xc (nT _ _ _ _ hj hK) Tryz.func87 (xb rfl rfl) hfr ?_;refine p1 (aQ (aB).2) ?_;refine bV (by kernel_rfl) ?_;refine CV.ret ?_;exact aR rfl (.inr rfl) ⟨_,_,_,_,_,rfl,rfl,rfl,aB⟩ cC
theorem pN (p:List Rat) (a:Rat) (j K:Nat) (hj:j<=10000000) (hK:K<=10000000) (hp:p.length<=1000000):aD Tryz.prog 38 [PL p j,RT a K] (.one (PL (aN p a) (3*(j+K)+20))):=by
 refine aD.of (n:=9) Tryz.func38 rfl rfl rfl rfl rfl fun cx hfr=>?_;refine sr rfl ?_;refine p1 (jV) ?_;refine p1 (jV) ?_;refine xn ?_;refine RV.done (sr rfl ?_);refine p1 (bO cQ) ?_;refine p1 (bJ bB aZ) ?_;refine p1 (rQ (caps:=[.tmp 2,.tmp 3]) (ss:=[_,_]) rfl rfl bd (xb rfl rfl) rfl) ?_;refine xd rfl (wD (fun k=>p.getD k 0*a) (3*(j+K)+20) p.length (p.length:Int) (by omega) (by omega) Tryz.func86 rfl rfl (caps:=[gC p j,uW a K]) (fun k hk=>aQw p a j K k hj hK hk)) Tryz.func77 (xb rfl rfl) hfr ?_;refine xn ?_;refine RV.done ?_;refine CV.ret ?_;exact aR rfl (.inr rfl) rfl cC
theorem aHp (k:Nat):Rat.divInt ((k:Nat):Int) 1=((k:Nat):Rat):=by
 have h:=aBv ((k:Nat):Int);refine Rat.ext ?_ ?_
 ·rw[show (Rat.divInt ((k:Nat):Int) 1).num=(k:Int) by exact h.1];rfl
 ·rw[show (Rat.divInt ((k:Nat):Int) 1).den=1 by have:=h.2; omega];rfl
theorem aPs (p:List Rat) (j k:Nat) (hj:j<=10000000) (hk:k+1<p.length) (hp:p.length<=1000000):aD Tryz.prog 136 [.v (.int .i64 (k:Int)),gC p j] (.one (RT (p.getD (k+1) 0*((k+1:Nat):Rat)) (3*(j+6)+20))):=by
 refine aD.of (n:=13) Tryz.func136 rfl rfl rfl rfl rfl fun cx hfr=>?_;refine sr rfl ?_;refine p2 (aU (i:=0) bX) ?_;refine RV.done ?_;refine CV.seq ?_;refine CV.region rfl (fun _=>by kernel_rfl) ?_;refine p1 (bO cQ) ?_;refine xm ?_;refine p1 (cJ (c:=((k+1:Nat):Int)) (by rw[bU (by omega) (by omega)]; omega) rfl rfl bd rfl rfl) ?_;refine p1 (dB (k:=some 4) (i:=k+1) (eA hk) aZ cG) ?_;refine p1 (bO aB) ?_;refine xm ?_;refine p1 (cJ (c:=((k+1:Nat):Int)) (by rw[bU (by omega) (by omega)]; omega) rfl rfl bd rfl rfl) ?_;refine xd rfl (oV _ _ (by omega) (by omega) (by decide) (by decide)) Tryz.func57 (xb rfl rfl) hfr ?_;refine xd rfl (nT _ _ _ _ hj (by decide)) Tryz.func87 (xb rfl rfl) hfr ?_;refine p1 (aQ (aB).2) ?_;refine bV (by kernel_rfl) ?_;refine CV.ret ?_;exact aR rfl (.inr rfl) ⟨_,_,_,_,_,rfl,rfl,rfl,aB⟩ (jI (by rw[aHp]))
theorem aG1 (p:List Rat) (j:Nat) (hj:j<=10000000) (hp:p.length<=1000000):aD Tryz.prog 96 [PL p j] (.one (PL (cD p) (3*(j+6)+20))):=by
 refine aD.of (n:=7) Tryz.func96 rfl rfl rfl rfl rfl fun cx hfr=>?_;refine sr rfl ?_;refine p1 (jV) ?_;refine xn ?_;refine RV.done (sr rfl ?_);refine p1 (bO cQ) ?_;refine xc (pO _ _ hp) Tryz.func51 (xa rfl) hfr ?_;refine p1 (rQ (caps:=[.tmp 1]) (ss:=[_]) rfl rfl bd (xa rfl) rfl) ?_;refine xd rfl (wD (fun k=>p.getD (k+1) 0*((k+1:Nat):Rat)) (3*(j+6)+20) (p.length-1) ((p.length:Int)-1) (by omega) (by omega) Tryz.func136 rfl rfl (caps:=[gC p j]) (fun k hk=>aPs p j k hj (by omega) hp)) Tryz.func77 (xb rfl rfl) hfr ?_;refine xn ?_;refine RV.done ?_;refine CV.ret ?_;exact aR rfl (.inr rfl) rfl cC
def dW (p q:List Rat) (m:Rat):List Rat:=aI (tab (fun k=>if k<p.length-q.length then p.getD k 0 else p.getD k 0-m*q.getD (k-(p.length-q.length)) 0) (p.length-1))
theorem aPe (p q:List Rat) (m:Rat) (j i K k s:Nat) (hk:k<p.length) (hs:k<s):aD Tryz.prog 151 [.v (.int .i64 (k:Int)),pI (s:Int),gC p j,uW m i,gC q K] (.one (RT (p.getD k 0) j)):=by
 refine aD.of (n:=27) Tryz.func151 rfl rfl rfl rfl rfl fun cx hfr=>?_;refine sr rfl ?_;refine p2 (aU (i:=0) bX) ?_;refine RV.done ?_;refine CV.seq ?_;refine sr rfl ?_;refine xm ?_;refine p1 (bO iG) ?_;refine p1 (aLn (r:=true) (by rw[decide_eq_true_eq]; omega) rfl rfl bd rfl rfl) ?_;refine RV.done ?_;refine CV.yes rfl ?_;refine sr rfl ?_;refine p1 (bO cQ) ?_;refine xm ?_;refine p1 (dB (k:=some 4) (i:=k) (eA hk) aZ cG) ?_;refine p1 (bO aB) ?_;refine p1 (aQ (aB).2) ?_;refine RV.done ?_;refine CV.ret ?_;exact aR rfl (.inr rfl) ⟨_,_,_,_,_,rfl,rfl,rfl,aB⟩ cC
theorem aPd (p q:List Rat) (m:Rat) (j i K k s:Nat) (hj:j<=1000000) (hi:i<=1000000) (hK:K<=1000000) (hk:k<p.length) (hs:¬ k<s) (hq:k-s<q.length) (hs2:s<=1000000) (hp:p.length<=1000000):aD Tryz.prog 151 [.v (.int .i64 (k:Int)),pI (s:Int),gC p j,uW m i,gC q K] (.one (RT (p.getD k 0-m*q.getD (k-s) 0) (3*(j+(3*(i+K)+20))+20))):=by
 refine aD.of (n:=27) Tryz.func151 rfl rfl rfl rfl rfl fun cx hfr=>?_;refine sr rfl ?_;refine p2 (aU (i:=0) bX) ?_;refine RV.done ?_;refine CV.seq ?_;refine sr rfl ?_;refine xm ?_;refine p1 (bO iG) ?_;refine p1 (aLn (r:=false) (by rw[decide_eq_false_iff_not]; omega) rfl rfl bd rfl rfl) ?_;refine RV.done ?_;refine CV.no rfl ?_;refine CV.skip ?_;refine CV.seq ?_;refine CV.region rfl (fun _=>by kernel_rfl) ?_;refine p1 (bO cQ) ?_;refine xm ?_;refine p1 (dB (k:=some 4) (i:=k) (eA hk) aZ cG) ?_;refine p1 (bO aB) ?_;refine p1 (bO aB) ?_;refine p1 (bO cQ) ?_;refine xm ?_;refine p1 (bO iG) ?_;refine p1 (eB (c:=((k-s:Nat):Int)) (by rw[bU (by omega) (by omega)]; omega) rfl rfl bd rfl rfl) ?_;refine p1 (dB (k:=some 4) (i:=k-s) (eA hq) aZ cG) ?_;refine p1 (bO aB) ?_;refine xd rfl (nT _ _ _ _ (by omega) (by omega)) Tryz.func87 (xb rfl rfl) hfr ?_;refine xd rfl (aVb _ _ _ _ (by omega) (by omega)) Tryz.func152 (xb rfl rfl) hfr ?_;refine p1 (aQ (aB).2) ?_;refine bV (by kernel_rfl) ?_;refine CV.ret ?_;exact aR rfl (.inr rfl) ⟨_,_,_,_,_,rfl,rfl,rfl,aB⟩ cC
theorem aPf (p q:List Rat) (m:Rat) (j i K k s:Nat) (hj:j<=1000000) (hi:i<=1000000) (hK:K<=1000000) (hk:k<p.length) (hq:k<s\/k-s<q.length) (hs2:s<=1000000) (hp:p.length<=1000000):aD Tryz.prog 151 [.v (.int .i64 (k:Int)),pI (s:Int),gC p j,uW m i,gC q K] (.one (RT (if k<s then p.getD k 0 else p.getD k 0-m*q.getD (k-s) 0) (3*(j+(3*(i+K)+20))+20))):=by
 by_cases h:k<s
 ·rw[if_pos h];exact(aPe p q m j i K k s hk h).mono (fun _ _ _ _ h=>h) (eC rfl rfl (by omega))
 ·rw[if_neg h];exact aPd p q m j i K k s hj hi hK hk h (hq.resolve_left h) hs2 hp
theorem aHb (p q:List Rat) (m:Rat) (j i K:Nat) (hj:j<=1000000) (hi:i<=1000000) (hK:K<=1000000) (hp:p.length<=1000000) (hqp:q.length<=p.length):aD Tryz.prog 129 [PL p j,PL q K,RT m i] (.one (PL (dW p q m) (3*(j+(3*(i+K)+20))+20))):=by
 refine aD.of (n:=17) Tryz.func129 rfl rfl rfl rfl rfl fun cx hfr=>?_;refine sr rfl ?_;refine p1 (jV) ?_;refine p1 (jV) ?_;refine p1 (jV) ?_;refine xn ?_;refine RV.done (sr rfl ?_);refine p1 (bO cQ) ?_;refine p1 (bJ bB aZ) ?_;refine p1 (bO cQ) ?_;refine p1 (bJ bB aZ) ?_;refine p1 (eB (c:=((p.length-q.length:Nat):Int)) (by rw[bU (by omega) (by omega)]; omega) rfl rfl bd rfl rfl) ?_;refine iN (aM.plain (aR3 (r:=7) (k:=none) aTb rfl rfl rfl bd rfl rfl rfl) rfl) ?_;refine p1 (sZ (i:=0) (by decide) (by show 0<1; decide) rW (.inr rfl) rfl rfl rfl rfl rfl rfl rfl rfl rfl) ?_;refine RV.done ?_;refine CV.seq ?_;refine aQ1 (r:=7) (t:=7) (cx.bw hfr) rfl rfl rfl rfl ?_;refine CV.kp [] rfl rfl ?_;refine CV.region rfl (fun h=>nomatch h) ?_;refine p1 (bO cQ) ?_;refine xc (pO _ _ hp) Tryz.func51 (xa rfl) hfr ?_;refine p1 (rQ (caps:=[.tmp 7,.tmp 3,.tmp 5,.tmp 4]) (ss:=[_,_,_,_]) rfl rfl bd (.cons rfl cI.any (.cons rfl cI.any (xb rfl rfl))) rfl) ?_;refine xd rfl (wD (fun k=>if k<p.length-q.length then p.getD k 0 else p.getD k 0-m*q.getD (k-(p.length-q.length)) 0) (3*(j+(3*(i+K)+20))+20) (p.length-1) ((p.length:Int)-1) (by omega) (by omega) Tryz.func151 rfl rfl (caps:=[pI ((p.length-q.length:Nat):Int),gC p j,uW m i,gC q K]) (fun k hk=>aPf p q m j i K k (p.length-q.length) hj hi hK (by omega) (by omega) (by omega) hp)) Tryz.func77 (xb rfl rfl) hfr ?_;refine xn ?_;refine RV.done ?_;refine CV.ret ?_;exact aR rfl (.inr rfl) rfl cC
theorem aH9 (p q:List Rat) (j K:Nat) (hj:j<=1000000) (hK:K<=1000000) (hp:p.length<=1000000) (hq:q.length<=1000000):aD Tryz.prog 128 [PL p j,PL q K] (.one (RT (aH p/aH q) (3*(j+K)+40))):=by
 refine aD.of (n:=10) Tryz.func128 rfl rfl rfl rfl rfl fun cx hfr=>?_;refine sr rfl ?_;refine p2 (aU (i:=0) bX) ?_;refine RV.done (sr rfl ?_);refine xm ?_;refine xc (wE _ _ hp) Tryz.func125 (xa rfl) hfr ?_;refine xm ?_;refine xc (wE _ _ hq) Tryz.func125 (xa rfl) hfr ?_;refine xc (oO _ _ _ _ hj hK) Tryz.func53 (xb rfl rfl) hfr ?_;refine p1 (aQ (aB).2) ?_;refine RV.done ?_;refine CV.ret ?_;exact aR rfl (.inr rfl) ⟨_,_,_,_,_,rfl,rfl,rfl,aB⟩ cC
theorem aGx (a:Rat) (K:Nat) (hK:K<=1000000):aD Tryz.prog 127 [RT a K] (.one (RT (1/a) (3*(6+K)+40))):=by
 refine aD.of (n:=6) Tryz.func127 rfl rfl rfl rfl rfl fun cx hfr=>?_;refine sr rfl ?_;refine p2 (cA (i:=0)) ?_;refine p2 (aU (i:=1) bX) ?_;refine RV.done ?_;refine CV.seq ?_;refine CV.region rfl (fun _=>by kernel_rfl) ?_;refine xd rfl (oV _ _ (by decide) (by decide) (by decide) (by decide)) Tryz.func57 (xb rfl rfl) hfr ?_;refine p1 (aJ aB) ?_;refine xd rfl (oO _ _ _ _ (by decide) hK) Tryz.func53 (xb rfl rfl) hfr ?_;refine p1 (aQ (aB).2) ?_;refine bV (by kernel_rfl) ?_;refine CV.ret ?_;exact aR rfl (.inr rfl) ⟨_,_,_,_,_,rfl,rfl,rfl,aB⟩ (jI (by rw[show Rat.divInt 1 1=1 from by decide]))
def aX (p:List Rat):List Rat:=aN p (1/aH p)
theorem aIm (p:List Rat) (K:Nat) (hK:K<=1000000) (hp:p.length<=1000000):aD Tryz.prog 82 [PL p K] (.one (PL (aX p) (3*(K+(3*(6+K)+40))+20))):=by
 refine aD.of (n:=8) Tryz.func82 rfl rfl rfl rfl rfl fun cx hfr=>?_;refine sr rfl ?_;refine xn ?_;refine RV.done (sr rfl ?_);refine xm ?_;refine xm ?_;refine xc (wE _ _ hp) Tryz.func125 (xa rfl) hfr ?_;refine xc (aGx _ _ hK) Tryz.func127 (xa rfl) hfr ?_;refine xd rfl (pN _ _ _ _ (by omega) (by omega) hp) Tryz.func38 (xb rfl rfl) hfr ?_;refine xn ?_;refine RV.done ?_;refine CV.ret ?_;exact aR rfl (.inr rfl) rfl cC
/-! Sizes. -/
def aG (l:List Rat) (B:Nat):Bool:=l.all fun a=>decide (len a.num<=B)&&decide (len (qd a)<=B)
theorem pV {a:Rat} {B:Nat} (h:aG [a] B=true):len a.num<=B/\len (qd a)<=B:=by
 simpa[aG] using h
theorem zS {l:List Rat} {B:Nat} (h:aG l B=true) {a:Rat} (ha:a∈l):len a.num<=B/\len (qd a)<=B:=by
 have:=List.all_eq_true.1 h a ha;simpa using this
theorem aNs {a:Rat} {K B:Nat} (h:len a.num<=B/\len (qd a)<=B) {w:World} {v:Value} (hv:(RT a K).at w v):(RT a B).at w v:=by
 obtain⟨s,t,h1,h2,h3,_,_⟩:=hv;exact⟨s,t,h1,h2,h3,h.1,h.2⟩
theorem aYf {a:Rat} {K B:Nat} (h:aG [a] B=true):∀ L ρ w v,(RT a K).is L ρ w v->(RT a B).is L ρ w v:=fun _ _ _ _ hv w' hw=>aNs (pV h) (hv w' hw)
inductive fQ {α β:Type} (R:α -> β->Prop):List α->List β->Prop where
 | nil:fQ R [] []
 | cons {a:α} {b : β} {l:List α} {m:List β}:R a b->fQ R l m->fQ R (a::l) (b::m)
theorem fQ.length_eq {α β:Type} {R:α -> β->Prop} {l:List α} {m:List β} (h:fQ R l m):l.length=m.length:=by
 induction h with
 | nil=>rfl
 | cons _ _ ih=>rw[List.length_cons,List.length_cons,ih]
theorem dT {a:Rat} {K B:Nat} (h:aG [a] B=true):∀ L ρ w v,(AV.one (RT a K)).is L ρ w v->(AV.one (RT a B)).is L ρ w v:=aYf h
theorem aNl {w:World} {k:Option Nat}:∀ {l l':List (SA Dm)} {cs:List Value},fQ (fun s s':SA Dm=>∀ w v,s.at w v->s'.at w v) l l'->cT w k l cs->cT w k l' cs
 | [],[],_,_,h=>h
 | _::_,_::_,_,.cons h1 h2,⟨p,r,v,e1,e2,e3,e4⟩=>⟨p,r,v,e1,e2,h1 _ _ e3,aNl h2 e4⟩
theorem aAm {k:Option Nat} {l l':List (SA Dm)} (h:fQ (fun s s':SA Dm=>∀ w v,s.at w v->s'.at w v) l l'):∀ L ρ w v,(SA.d (Dm.gen (bY k l))).is L ρ w v->(SA.d (Dm.gen (bY k l'))).is L ρ w v:=by
 intro L ρ w v hv w' hw;have hl:=h.length_eq;obtain⟨ao,cap,rfl,h1,h2⟩:=hv w' hw;refine⟨ao,cap,by rw[hl],by rw[<- hl]; exact h1,fun hp=>?_⟩;obtain⟨b,off,e,cs,h3,h4⟩:=h2 (by rw[hl]; exact hp);exact⟨b,off,e,cs,aNl h h3,h4⟩
theorem aYh {l:List Rat} {K B:Nat} (h:aG l B=true):∀ L ρ w v,(PL l K).is L ρ w v->(PL l B).is L ρ w v:=by
 refine aAm ?_;have:∀ m:List Rat,(∀ a∈m,len a.num<=B/\len (qd a)<=B)->fQ (fun s s':SA Dm=>∀ w v,s.at w v->s'.at w v) (bN m K) (bN m B):=by
  intro m
  induction m with
  | nil=>intro _; exact .nil
  | cons a m ih=>intro hm; exact .cons (fun w v hv=>aNs (hm a List.mem_cons_self) hv) (ih fun x hx=>hm x (List.mem_cons_of_mem _ hx))
 exact this l fun a ha=>zS h ha
theorem dJ {l:List Rat} {K B:Nat} (h:aG l B=true):∀ L ρ w v,(AV.one (PL l K)).is L ρ w v->(AV.one (PL l B)).is L ρ w v:=aYh h
theorem aTp (p q:List Rat) (m:Rat):(dW p q m).length<=p.length-1:=by
 unfold dW;refine Nat.le_trans (iL _) ?_;rw[eX];exact Nat.le_refl _
/-! Div. -/
def oG (u:List (Option Rat)) (B:Nat):List (SA Dm):=u.map fun o=>match o with | none=>.v dR | some a=>RT a B
theorem aCa {u:List (Option Rat)} {B:Nat}:(oG u B).length=u.length:=by simp[oG]
theorem aTw {n B:Nat}:List.replicate n (SA.v dR:SA Dm)=oG (List.replicate n none) B:=by simp[oG]
theorem aV5 {u:List (Option Rat)} {B i:Nat} {a:Rat}:(oG u B).set i (RT a B)=oG (u.set i (some a)) B:=by simp[oG,List.map_set]
theorem aXk {u:List (Option Rat)} {B:Nat}:∀ L ρ w v,(SA.d (Dm.gen (bY (some 4) (oG u B)))).is L ρ w v->(PL (u.map fun o=>o.getD 0) B).is L ρ w v:=by
 refine aAm ?_
 induction u with
 | nil=>exact .nil
 | cons o u ih =>
  refine .cons (fun w v hv=>?_) ih;cases o with
  | none =>
   obtain rfl:v=dR:=hv;have h0:(aA (0:Int).natAbs).length<=B:=by rw[show (0:Int).natAbs=0 from rfl,fY]; exact Nat.zero_le _
   exact⟨_,_,rfl,aL.nil (by decide),aL.nil (by decide),h0,h0⟩
  | some a=>exact hv
def iT (B:Nat) (q:List Rat):Nat->List (Option Rat)->List Rat->Option (List (Option Rat) × List Rat)
 | 0,_,_=>none
 | n+1,u,r=>if q.length<=r.length then (if (aG [aH r/aH q] B&&aG (dW r q (aH r/aH q)) B)=true then iT B q n (u.set (r.length-q.length) (some (aH r/aH q))) (dW r q (aH r/aH q)) else none) else some (u,r)
theorem aI2 {B n:Nat} {q r:List Rat} {u:List (Option Rat)} {X:List (Option Rat) × List Rat} (h:iT B q n u r=some X) (hl:q.length<=r.length) :
  ∃ m,aG [aH r/aH q] B=true/\aG (dW r q (aH r/aH q)) B=true/\iT B q m (u.set (r.length-q.length) (some (aH r/aH q))) (dW r q (aH r/aH q))=some X:=by
 cases n with
 | zero=>cases h
 | succ n =>
  rw[iT,if_pos hl] at h;split at h
  ·rename_i h2;rw[Bool.and_eq_true] at h2;exact⟨n,h2.1,h2.2,h⟩
  ·cases h
theorem aKs {B n:Nat} {q r:List Rat} {u:List (Option Rat)} {X:List (Option Rat) × List Rat} (h:iT B q n u r=some X) (hl:¬ q.length<=r.length):X=(u,r):=by
 cases n with
 | zero=>cases h
 | succ n =>
  rw[iT,if_neg hl] at h;injection h with h;exact h.symm
def dE (B:Nat) (p q:List Rat):Option (List Rat × List Rat):=if q=[] then some ([],[]) else (iT B q (p.length+2) (List.replicate (p.length+1-q.length) none) p).map fun x=>(x.1.map fun o=>o.getD 0,x.2)
theorem qC {K:Nat}:∀ (L:Nat->Prop) (ρ:aS) (w:World) (v:Value),(SA.v (.slice none 0 0):SA Dm).is L ρ w v->(PL [] K).is L ρ w v:=by
 intro L ρ w v h w' _;obtain rfl:v=_:=h;exact⟨none,0,rfl,⟨Nat.le_refl _,by decide⟩,fun h=>absurd h (Nat.lt_irrefl 0)⟩
theorem aVk (p:List Rat) (K B:Nat):aD Tryz.prog 134 [PL p K,PL [] B] (.tup [PL [] B,PL [] B]):=by
 refine aD.of (n:=43) Tryz.func134 rfl rfl rfl rfl rfl fun cx hfr=>?_;refine sr rfl ?_;refine xn ?_;refine xn ?_;refine RV.done ?_;refine CV.seq ?_;refine sr rfl ?_;refine xm ?_;refine p1 (bJ bB aZ) ?_;refine p1 (cR) ?_;refine RV.done ?_;refine CV.cond rfl (fun hc=>?_) (fun hc=>False.elim (by simp at hc));refine sr rfl ?_;refine xn ?_;refine xn ?_;refine RV.done ?_;refine CV.ret ?_;exact pB rfl (.inr rfl) rfl rfl (aAa qC qC)
section
variable (p q:List Rat) (B:Nat) (U:List (Option Rat)) (R:List Rat) (hB:B<=300000) (hp:p.length<=1000000) (hq:q.length<=1000000) (hq0:q≠[]) (h:iT B q (p.length+2) (List.replicate (p.length+1-q.length) none) p=some (U,R))
include hB hp hq hq0 h
theorem aVj:aD Tryz.prog 134 [PL p B,PL q B] (.tup [PL (U.map fun o=>o.getD 0) B,PL R B]):=by
 have hql:0<q.length:=List.length_pos_iff.2 hq0;refine aD.of (n:=43) Tryz.func134 rfl rfl rfl rfl rfl fun cx hfr=>?_;refine sr rfl ?_;refine xn ?_;refine xn ?_;refine RV.done ?_;refine CV.seq ?_;refine sr rfl ?_;refine xm ?_;refine p1 (bJ bB aZ) ?_;refine p1 (cR) ?_;refine RV.done ?_;refine CV.cond rfl (fun hc=>False.elim (by simp at hc; exact hq0 hc)) (fun hc=>?_);refine CV.skip ?_;refine sr rfl ?_;refine xm ?_;refine p1 (bJ bB aZ) ?_;refine xm ?_;refine p1 (bJ bB aZ) ?_;refine p1 (eB (c:=(p.length:Int)-q.length) (by rw[bU (by omega) (by omega)]) rfl rfl bd rfl rfl) ?_;refine p1 (cJ (c:=(p.length:Int)-q.length+1) (by rw[bU (by omega) (by omega)]) rfl rfl bd rfl rfl) ?_;refine p1 (tY (c:=((p.length+1-q.length:Nat):Int)) (by split<;>omega) rfl rfl bd rfl rfl) ?_;refine p2 (wH (r:=19) (Nat.le_refl _) (by omega) (by omega) aZ iO rfl rfl rfl rfl bd rfl rfl rfl rfl rfl) ?_;refine xm ?_;refine xn ?_;refine xn ?_;refine RV.done ?_;refine CV.seq ?_;refine CV.block ?_;refine CV.loop (X:={s:Nat × List (Option Rat) × List Rat // iT B q s.1 s.2.1 s.2.2=some (U,R)/\s.2.1.length=p.length+1-q.length/\s.2.2.length<=p.length}) (fun s=>[(.s 7,.av (.one (PL s.1.2.2 B))),(.s 6,.av (.one (.sl 19 (p.length+1-q.length)))),(.b 19,.row 31 (some 4) (oG s.1.2.1 B)),(.s 1,.av (.one (PL q B)))]) (fun s=>s.1.2.2.length) ⟨(p.length+2,List.replicate (p.length+1-q.length) none,p),h,by rw[List.length_replicate],Nat.le_refl _⟩ (bF.mk ⟨aC _,aC _,eO aTw,aC _,trivial⟩ rfl rfl) (fun s=>?_);obtain⟨⟨n,u,r⟩,hs,hu,hr⟩:=s;simp only at hs hu hr |-;refine CV.seq ?_;refine sr rfl ?_;refine xm ?_;refine p1 (bJ bB aZ) ?_;refine xm ?_;refine p1 (bJ bB aZ) ?_;refine p1 (rZ) ?_;refine RV.done ?_;refine CV.cond rfl (fun hc=>?_) (fun hc=>?_)
 ·have hle:q.length<=r.length:=(by have:=of_decide_eq_true hc; omega)
  obtain⟨m,hs1,hs2,hs3⟩:=aI2 hs hle;have hrl:=aTp r q (aH r/aH q);refine CV.skip ?_;refine CV.block ?_;refine sr rfl ?_;refine xm ?_;refine xm ?_;refine xd rfl ((aH9 r q B B (by omega) (by omega) (by omega) hq).mono (fun _ _ _ _ h=>h) (dT hs1)) Tryz.func128 (xb rfl rfl) hfr ?_;refine p2 (aU (i:=0) bX) ?_;refine p1 (aQ (aB).2) ?_;refine RV.done (sr rfl ?_);refine xm ?_;refine xm ?_;refine p1 (bJ bB aZ) ?_;refine xm ?_;refine p1 (bJ bB aZ) ?_;refine p1 (eB (c:=((r.length-q.length:Nat):Int)) (by rw[bU (by omega) (by omega)]; omega) rfl rfl bd rfl rfl) ?_;refine p1 (aJ aB) ?_;refine p1 (mP (i:=r.length-q.length) (by omega) (by rw[aCa]; omega) aZ cG rfl rfl bd rfl rfl rfl) ?_;refine p1 (sZ (i:=r.length-q.length) (by rw[aCa]; omega) (by show 0<4; decide) cG (.inl rfl) rfl rfl rfl rfl rfl rfl rfl rfl rfl) ?_;refine RV.done ?_;refine CV.region rfl (fun h=>nomatch h) ?_;refine xm ?_;refine xm ?_;refine p1 (aJ aB) ?_;refine xd rfl ((aHb r q (aH r/aH q) B B B (by omega) (by omega) (by omega) (by omega) hle).mono (fun _ _ _ _ h=>h) (dJ hs2)) Tryz.func129 (.cons rfl cI.any (xb rfl rfl)) hfr ?_;refine xn ?_;refine RV.done ?_;exact⟨⟨(m,u.set (r.length-q.length) (some (aH r/aH q)),dW r q (aH r/aH q)),hs3,by rw[List.length_set]; exact hu,by show (dW r q (aH r/aH q)).length<=p.length; omega⟩,bF.mk ⟨aC _,aC _,eO aV5,aC _,trivial⟩ rfl rfl,by show (dW r q (aH r/aH q)).length<r.length; omega⟩
 ·refine CV.exit ?_;refine CV.seq ?_;have hX:=aKs hs (by have:=of_decide_eq_false hc; omega);obtain⟨rfl,rfl⟩:U=u/\R=r:=(Prod.mk.inj hX)
  refine jU (r:=19) (t:=6) (G:=Dm.gen (bY (some 4) (oG U B))) (cx.bw hfr) rfl rfl (by rw[aCa]; exact hu.symm) rfl rfl (cM _ _) (iF _ _) ?_;refine CV.region rfl (fun h=>nomatch h) ?_;refine xm ?_;refine xm ?_;refine xn ?_;refine xn ?_;refine RV.done ?_;refine CV.ret ?_;exact pB rfl (.inr rfl) rfl rfl (aAa aXk (fun _ _ _ _ h=>h))
end
theorem zL (p q:List Rat) (B:Nat) {U R:List Rat} (hB:B<=300000) (hp:p.length<=1000000) (hq:q.length<=1000000) (h:dE B p q=some (U,R)):aD Tryz.prog 134 [PL p B,PL q B] (.tup [PL U B,PL R B]):=by
 unfold dE at h;by_cases h0:q=[]
 ·rw[if_pos h0] at h;injection h with h;obtain⟨rfl,rfl⟩:=Prod.mk.inj h;subst h0;exact aVk p B B
 ·rw[if_neg h0] at h;obtain⟨⟨u,r⟩,h1,h2⟩:=Option.map_eq_some_iff.1 h;obtain⟨rfl,rfl⟩:=Prod.mk.inj h2;exact aVj p q B u r hB hp hq h0 h1
abbrev wR (z:Int):Rat:=Rat.divInt z 1
theorem w_num (z:Int):(wR z).num=z:=(aBv z).1
theorem aYs (z:Int):qd (wR z)=0:=by
 have h:=(aBv z).2;have h1:(Rat.divInt z 1).den=1:=by omega
 show (if (Rat.divInt z 1).den=1 then (0:Int) else _)=0;rw[if_pos h1]
section
variable {cx:Cx Dm} {n:Nat} {σ:St Dm} {o:Oper} {d:Nat} {x:Operand}
theorem aCb {p:Int} {k:Nat} (ho:o.op=.build 31 #[(0,x)]) (hd:o.dst=some d) (hn:d<n) (hx:opd σ x=.av (.one (.d (.int p k)))):aM Tryz.prog cx n σ o (bE x) [(.s d,.av (.one (RT (wR p) k)))]:=by
 have h:=rC (cx:=cx) ho hd hn hx;show aM _ _ _ _ _ _ [(.s d,.av (.one (.d (Dm.rt (wR p).num (qd (wR p)) k))))];rw[w_num,aYs];exact h
end
theorem aIh (a:Rat) (K:Nat):aD Tryz.prog 126 [RT a K] (.tup [RT (wR a.num) K,RT (wR (a.den:Int)) (K+3)]):=by
 refine aD.of (n:=10) Tryz.func126 rfl rfl rfl rfl rfl fun cx hfr=>?_;refine sr rfl ?_;refine p2 (cA (i:=0)) ?_;refine p2 (aU (i:=1) bX) ?_;refine p2 (aU (i:=2) bX) ?_;refine RV.done ?_;refine CV.seq ?_;refine CV.region rfl (fun _=>by kernel_rfl) ?_;refine p1 (bH dH) ?_;refine p1 (bI 0 dG aK) ?_;refine p1 (aCb rfl rfl bd rfl) ?_;refine p1 (aJ aB) ?_;refine xc (gW _ _) Tryz.func102 (xa rfl) hfr ?_;refine p1 (aCb rfl rfl bd rfl) ?_;refine p1 (aQ (aB).2) ?_;refine p1 (aQ (aB).2) ?_;refine bV (by kernel_rfl) ?_;refine CV.ret ?_;exact pB rfl (.inr rfl) ⟨_,_,_,_,_,rfl,rfl,rfl,aB⟩ ⟨_,_,_,_,_,rfl,rfl,rfl,aB⟩ aEp
def fO (q p:List Rat):Rat:=aH p/aH q
def jK (q p:List Rat):List Rat:=aN p (wR ((fO q p).den:Int))
def mulN (q p:List Rat):List Rat:=dW (jK q p) q (wR (fO q p).num)
def uN (B:Nat) (q p:List Rat):Bool:=(aG [fO q p] B&&aG (jK q p) B)&&(aG (mulN q p) B&&(decide (q.length<=(jK q p).length)&&decide ((mulN q p).length<p.length)))
theorem aKa {B:Nat} {q p:List Rat} (h:uN B q p=true):aG [fO q p] B=true/\aG (jK q p) B=true/\aG (mulN q p) B=true/\q.length<=(jK q p).length/\(mulN q p).length<p.length:=by
 unfold uN at h;rw[Bool.and_eq_true,Bool.and_eq_true,Bool.and_eq_true,Bool.and_eq_true] at h;exact⟨h.1.1,h.1.2,h.2.1,of_decide_eq_true h.2.2.1,of_decide_eq_true h.2.2.2⟩
def kX (B:Nat) (q:List Rat):Nat->List Rat->Option (List Rat)
 | 0,_=>none
 | n+1,p=>if q.length<=p.length then (if uN B q p=true then kX B q n (mulN q p) else none) else some p
theorem aR5 {B n:Nat} {q p R:List Rat} (h:kX B q n p=some R) (hl:q.length<=p.length):uN B q p=true/\∃ m,kX B q m (mulN q p)=some R:=by
 cases n with
 | zero=>cases h
 | succ n =>
  rw[kX,if_pos hl] at h;split at h
  ·rename_i h2; exact⟨h2,n,h⟩
  ·cases h
theorem aUc {B n:Nat} {q p R:List Rat} (h:kX B q n p=some R) (hl:¬ q.length<=p.length):R=p:=by
 cases n with
 | zero=>cases h
 | succ n =>
  rw[kX,if_neg hl] at h;injection h with h;exact h.symm
theorem kS (p:List Rat) (a:Rat):(aN p a).length<=p.length:=by
 unfold aN;refine Nat.le_trans (iL _) ?_;rw[eX];exact Nat.le_refl _
section
variable (p q R:List Rat) (B n:Nat) (hB:B<=300000) (hp:p.length<=1000000) (hq:q.length<=1000000) (h:kX B q n p=some R)
include hB hp hq h
theorem aO1:aD Tryz.prog 81 [PL p B,PL q B] (.one (PL R B)):=by
 refine aD.of (n:=26) Tryz.func81 rfl rfl rfl rfl rfl fun cx hfr=>?_;refine sr rfl ?_;refine xn ?_;refine RV.done ?_;refine CV.seq ?_;refine CV.block ?_;refine CV.loop (X:={s:Nat × List Rat // kX B q s.1 s.2=some R/\s.2.length<=p.length}) (fun s=>[(.s 0,.av (.one (PL s.1.2 B))),(.s 1,.av (.one (PL q B)))]) (fun s=>s.1.2.length) ⟨(n,p),h,Nat.le_refl _⟩ (bF.mk ⟨aC _,aC _,trivial⟩ rfl rfl) (fun s=>?_);obtain⟨⟨n,r⟩,hs,hr⟩:=s;simp only at hs hr |-;refine CV.seq ?_;refine sr rfl ?_;refine xm ?_;refine p1 (bJ bB aZ) ?_;refine xm ?_;refine p1 (bJ bB aZ) ?_;refine p1 (rZ) ?_;refine RV.done ?_;refine CV.cond rfl (fun hc=>?_) (fun hc=>?_)
 ·have hle:q.length<=r.length:=(by have:=of_decide_eq_true hc; omega)
  obtain⟨hok,m,hs2⟩:=aR5 hs hle;obtain⟨o1,o2,o3,o4,o5⟩:=aKa hok;have hsl:=kS r (wR ((fO q r).den:Int));refine CV.skip ?_;refine CV.block ?_;refine sr rfl ?_;refine xm ?_;refine xm ?_;refine xd rfl ((aH9 r q B B (by omega) (by omega) (by omega) hq).mono (fun _ _ _ _ h=>h) (dT o1)) Tryz.func128 (xb rfl rfl) hfr ?_;refine xc (aIh (fO q r) B) Tryz.func126 (xa rfl) hfr ?_;refine xm ?_;refine p1 (cK) ?_;refine p1 (cK) ?_;refine p2 (aU (i:=0) bX) ?_;refine p2 (aU (i:=1) bX) ?_;refine p1 (aQ (aB).2) ?_;refine p1 (aQ (aB).2) ?_;refine RV.done ?_;refine CV.region rfl (fun _=>by kernel_rfl) ?_;refine xm ?_;refine p1 (aJ aB) ?_;refine xd rfl ((pN r (wR ((fO q r).den:Int)) B (B+3) (by omega) (by omega) (by omega)).mono (fun _ _ _ _ h=>h) (dJ o2)) Tryz.func38 (xb rfl rfl) hfr ?_;refine xm ?_;refine p1 (aJ aB) ?_;refine xd rfl ((aHb (jK q r) q (wR (fO q r).num) B B B (by omega) (by omega) (by omega) (by show (aN r _).length<=_; omega) o4).mono (fun _ _ _ _ h=>h) (dJ o3)) Tryz.func129 (.cons rfl cI.any (xb rfl rfl)) hfr ?_;refine xn ?_;refine bV (by kernel_rfl) ?_;exact⟨⟨(m,mulN q r),hs2,by show (mulN q r).length<=p.length; omega⟩,bF.mk ⟨aC _,aC _,trivial⟩ rfl rfl,o5⟩
 ·refine CV.exit ?_;refine CV.seq ?_;have hX:=aUc hs (by have:=of_decide_eq_false hc; omega);subst hX;refine CV.region rfl (fun h=>nomatch h) ?_;refine xm ?_;refine xn ?_;refine RV.done ?_;refine CV.ret ?_;exact aR rfl (.inr rfl) rfl cC
end
theorem aKb {B:Nat} {q:List Rat}:∀ {n:Nat} {p R:List Rat},kX B q n p=some R->R.length<=p.length
 | 0,_,_,h=>by cases h
 | n+1,p,R,h=>by
  rw[kX] at h;split at h
  ·split at h
   ·rename_i h2;have:=aKb h;have:=(aKa h2).2.2.2.2;omega
   ·cases h
  ·injection h with h;subst h;exact Nat.le_refl _
def gG (B:Nat):List Rat->Rat->Option Rat
 | [],d=>some d
 | a::l,d=>if (aG [a/d] B&&aG [d/wR ((a/d).den:Int)] B)=true then gG B l (d/wR ((a/d).den:Int)) else none
theorem aHd {B:Nat} {a d D:Rat} {l:List Rat} (h:gG B (a::l) d=some D):aG [a/d] B=true/\aG [d/wR ((a/d).den:Int)] B=true/\gG B l (d/wR ((a/d).den:Int))=some D:=by
 rw[gG] at h;split at h
 ·rename_i h2;rw[Bool.and_eq_true] at h2;exact⟨h2.1,h2.2,h⟩
 ·cases h
theorem aI0 {l:List Rat} {k:Nat} (h:k<l.length):l.drop k=l.getD k 0::l.drop (k+1):=by
 rw[List.drop_eq_getElem_cons h];simp[List.getD_eq_getElem?_getD,List.getElem?_eq_getElem h]
section
variable (p:List Rat) (D:Rat) (B:Nat) (hB:B<=300000) (hp:p.length<=1000000) (h:gG B p (aH p)=some D) (h1:aG [1/D] B=true) (h2:aG (aN p (1/D)) B=true)
include hB hp h h1 h2
theorem aOn:aD Tryz.prog 80 [PL p B] (.one (PL (aN p (1/D)) B)):=by
 refine aD.of (n:=31) Tryz.func80 rfl rfl rfl rfl rfl fun cx hfr=>?_;refine sr rfl ?_;refine xn ?_;refine RV.done (sr rfl ?_);refine xm ?_;refine xc (wE _ _ hp) Tryz.func125 (xa rfl) hfr ?_;refine p2 (aU (i:=0) bX) ?_;refine p1 (aQ (aB).2) ?_;refine RV.done ?_;refine CV.seq ?_;refine sr rfl ?_;refine xm ?_;refine p1 (bJ bB aZ) ?_;refine xm ?_;refine RV.done ?_;refine CV.block ?_;refine CV.loop (X:={s:Nat × Rat // s.1<=p.length/\gG B (p.drop s.1) s.2=some D}) (fun s=>[(.s 12,.av (.one (.v (.int .i64 (s.1.1:Int))))),(.s 11,.av (.one (.v (.int .i64 (p.length:Int))))),(.s 10,.av (.one (PL p B))),(.s 0,.av (.one (PL p B))),(.s 3,.av (.one (.ptr 0 0))),(.b 0,.blk 31 [(some 4,RT s.1.2 B)])]) (fun s=>p.length-s.1.1) ⟨(0,aH p),Nat.zero_le _,h⟩ (bF.mk ⟨aC _,aC _,aC _,aC _,aC _,aC _,trivial⟩ rfl rfl) (fun s=>?_);obtain⟨⟨k,e⟩,hk,hs⟩:=s;simp only at hk hs |-;refine sr rfl ?_;refine p1 (dU) ?_;refine RV.done ?_;refine CV.seq ?_;refine CV.cond rfl (fun hc=>?_) (fun hc=>?_)
 ·have hlt:k<p.length:=(by have:=of_decide_eq_true hc; omega)
  rw[aI0 hlt] at hs;obtain⟨o1,o2,o3⟩:=aHd hs;refine CV.skip ?_;refine CV.seq ?_;refine CV.block ?_;refine sr rfl ?_;refine p1 (dB (k:=some 4) (i:=k) (eA hlt) aZ cG) ?_;refine p1 (bO aB) ?_;refine p2 (aU (i:=1) bX) ?_;refine p1 (aQ (aB).2) ?_;refine RV.done (sr rfl ?_);refine p1 (aJ aB) ?_;refine p1 (aJ aB) ?_;refine xd rfl ((oO (p.getD k 0) e B B (by omega) (by omega)).mono (fun _ _ _ _ h=>h) (dT o1)) Tryz.func53 (xb rfl rfl) hfr ?_;refine xc (aIh (p.getD k 0/e) B) Tryz.func126 (xa rfl) hfr ?_;refine xm ?_;refine p1 (cK) ?_;refine p1 (cK) ?_;refine p2 (aU (i:=2) bX) ?_;refine p2 (aU (i:=3) bX) ?_;refine p1 (aQ (aB).2) ?_;refine p1 (aQ (aB).2) ?_;refine RV.done ?_;refine CV.region rfl (fun h=>nomatch h) ?_;refine p1 (aJ aB) ?_;refine p1 (aJ aB) ?_;refine xd rfl ((oO e (wR ((p.getD k 0/e).den:Int)) B (B+3) (by omega) (by omega)).mono (fun _ _ _ _ h=>h) (dT o2)) Tryz.func53 (xb rfl rfl) hfr ?_;refine p1 (aQ (aB).2) ?_;refine RV.done ?_;refine CV.region rfl (fun h=>nomatch h) ?_;refine p1 (cJ (c:=((k+1:Nat):Int)) (by rw[bU (by omega) (by omega)]; omega) rfl rfl bd rfl rfl) ?_;refine xm ?_;refine RV.done ?_;exact⟨⟨(k+1,e/wR ((p.getD k 0/e).den:Int)),hlt,o3⟩,bF.mk ⟨aC _,aC _,aC _,aC _,aC _,aC _,trivial⟩ rfl rfl,by show p.length-(k+1)<p.length-k; omega⟩
 ·refine CV.exit ?_;refine CV.seq ?_;have hkp:k=p.length:=(by have:=of_decide_eq_false hc; omega)
  rw[hkp,List.drop_length,gG] at hs;obtain rfl:=Option.some.inj hs;refine CV.region rfl (fun h=>nomatch h) ?_;refine xm ?_;refine p1 (aJ aB) ?_;refine xd rfl ((aGx _ _ (by omega)).mono (fun _ _ _ _ h=>h) (dT h1)) Tryz.func127 (xa rfl) hfr ?_;refine xd rfl ((pN p (1/e) B B (by omega) (by omega) hp).mono (fun _ _ _ _ h=>h) (dJ h2)) Tryz.func38 (xb rfl rfl) hfr ?_;refine xn ?_;refine RV.done ?_;refine CV.ret ?_;exact aR rfl (.inr rfl) rfl cC
end
def jH (B:Nat) (p:List Rat):Option (List Rat):=(gG B p (aH p)).bind fun D=>if (aG [1/D] B&&aG (aN p (1/D)) B)=true then some (aN p (1/D)) else none
theorem aJw {B:Nat} {p R:List Rat} (h:jH B p=some R):∃ D,gG B p (aH p)=some D/\aG [1/D] B=true/\aG (aN p (1/D)) B=true/\R=aN p (1/D):=by
 unfold jH at h;obtain⟨D,h1,h2⟩:=Option.bind_eq_some_iff.1 h;split at h2
 ·rename_i h3;rw[Bool.and_eq_true] at h3;injection h2 with h2;exact⟨D,h1,h3.1,h3.2,h2.symm⟩
 ·cases h2
theorem aIf {B:Nat} {p R:List Rat} (h:jH B p=some R):R.length<=p.length:=by
 obtain⟨D,_,_,_,rfl⟩:=aJw h;exact kS _ _
theorem aBn (p R:List Rat) (B:Nat) (hB:B<=300000) (hp:p.length<=1000000) (h:jH B p=some R):aD Tryz.prog 80 [PL p B] (.one (PL R B)):=by
 obtain⟨D,h1,h2,h3,rfl⟩:=aJw h;exact aOn p D B hB hp h1 h2 h3
def jL (B:Nat):Nat->List Rat->List Rat->Option (List Rat)
 | 0,_,_=>none
 | n+1,p,q=>if 0<q.length then (kX B q (p.length+2) p).bind (fun r=>(jH B r).bind fun s=>if s.length<q.length then jL B n q s else none) else some p
theorem aSb {B n:Nat} {p q R:List Rat} (h:jL B n p q=some R) (hl:0<q.length):∃ m r s,kX B q (p.length+2) p=some r/\jH B r=some s/\s.length<q.length/\jL B m q s=some R:=by
 cases n with
 | zero=>cases h
 | succ n =>
  rw[jL,if_pos hl] at h;obtain⟨r,h1,h⟩:=Option.bind_eq_some_iff.1 h;obtain⟨s,h2,h⟩:=Option.bind_eq_some_iff.1 h;split at h
  ·rename_i h3; exact⟨n,r,s,h1,h2,h3,h⟩
  ·cases h
theorem aUi {B n:Nat} {p q R:List Rat} (h:jL B n p q=some R) (hl:¬ 0<q.length):R=p:=by
 cases n with
 | zero=>cases h
 | succ n =>
  rw[jL,if_neg hl] at h;injection h with h;exact h.symm
section
variable (p q pa qa R:List Rat) (B n:Nat) (hB:B<=300000) (hp:p.length<=1000000) (hq:q.length<=1000000) (h1:jH B p=some pa) (h2:jH B q=some qa) (h:jL B n pa qa=some R) (hm:aG (aX R) B=true)
include hB hp hq h1 h2 h hm
theorem aVh:aD Tryz.prog 34 [PL p B,PL q B] (.one (PL (aX R) B)):=by
 have hpa:=aIf h1;have hqa:=aIf h2;refine aD.of (n:=19) Tryz.func34 rfl rfl rfl rfl rfl fun cx hfr=>?_;refine sr rfl ?_;refine xn ?_;refine RV.done (sr rfl ?_);refine xm ?_;refine xc (aBn p pa B hB hp h1) Tryz.func80 (xa rfl) hfr ?_;refine xm ?_;refine xc (aBn q qa B hB hq h2) Tryz.func80 (xa rfl) hfr ?_;refine xn ?_;refine xn ?_;refine RV.done ?_;refine CV.seq ?_;refine CV.block ?_;refine CV.loop (X:={s:Nat × List Rat × List Rat // jL B s.1 s.2.1 s.2.2=some R/\s.2.1.length<=1000000/\s.2.2.length<=1000000}) (fun s=>[(.s 0,.av (.one (PL s.1.2.1 B))),(.s 1,.av (.one (PL s.1.2.2 B)))]) (fun s=>s.1.2.2.length) ⟨(n,pa,qa),h,by show pa.length<=_; omega,by show qa.length<=_; omega⟩ (bF.mk ⟨aC _,aC _,trivial⟩ rfl rfl) (fun s=>?_);obtain⟨⟨n,r,s⟩,hs,hr,hs1⟩:=s;simp only at hs hr hs1 |-;refine CV.seq ?_;refine sr rfl ?_;refine xm ?_;refine p1 (bJ bB aZ) ?_;refine p1 (gY) ?_;refine RV.done ?_;refine CV.cond rfl (fun hc=>?_) (fun hc=>?_)
 ·have hlt:0<s.length:=(by have:=of_decide_eq_true hc; omega)
  obtain⟨m,r1,s1,o1,o2,o3,o4⟩:=aSb hs hlt;have hrl:=aKb o1;refine CV.skip ?_;refine CV.block ?_;refine CV.region rfl (fun h=>nomatch h) ?_;refine xm ?_;refine xm ?_;refine xm ?_;refine xc (aO1 r s r1 B _ hB hr hs1 o1) Tryz.func81 (xb rfl rfl) hfr ?_;refine xd rfl (aBn r1 s1 B hB (by omega) o2) Tryz.func80 (xa rfl) hfr ?_;refine xn ?_;refine xn ?_;refine RV.done ?_;exact⟨⟨(m,s,s1),o4,hs1,by show s1.length<=_; omega⟩,bF.mk ⟨aC _,aC _,trivial⟩ rfl rfl,o3⟩
 ·refine CV.exit ?_;refine CV.seq ?_;have hX:=aUi hs (by have:=of_decide_eq_false hc; omega);subst hX;refine CV.region rfl (fun h=>nomatch h) ?_;refine xm ?_;refine xd rfl ((aIm R B (by omega) hr).mono (fun _ _ _ _ h=>h) (dJ hm)) Tryz.func82 (xa rfl) hfr ?_;refine xn ?_;refine RV.done ?_;refine CV.ret ?_;exact aR rfl (.inr rfl) rfl cC
end
def nD (B:Nat) (p q:List Rat):Option (List Rat):=(jH B p).bind fun pa=>(jH B q).bind fun qa=>(jL B (p.length+q.length+3) pa qa).bind fun R=>if aG (aX R) B=true then some (aX R) else none
theorem aVe (p q G:List Rat) (B:Nat) (hB:B<=300000) (hp:p.length<=1000000) (hq:q.length<=1000000) (h:nD B p q=some G):aD Tryz.prog 34 [PL p B,PL q B] (.one (PL G B)):=by
 unfold nD at h;obtain⟨pa,h1,h⟩:=Option.bind_eq_some_iff.1 h;obtain⟨qa,h2,h⟩:=Option.bind_eq_some_iff.1 h;obtain⟨R,h3,h⟩:=Option.bind_eq_some_iff.1 h;split at h
 ·rename_i hm;injection h with h;subst h;exact aVh p q pa qa R B _ hB hp hq h1 h2 h3 hm
 ·cases h
section
variable (p G U R:List Rat) (B:Nat) (hB:B<=300000) (hp:p.length<=1000000) (h0:aG (cD p) B=true) (h1:nD B p (cD p)=some G) (hG:G.length<=1000000) (h2:dE B p G=some (U,R)) (hU:U.length<=1000000) (hm:aG (aX U) B=true)
include hB hp h0 h1 h2 hG hU hm
theorem aS6:aD Tryz.prog 94 [PL p B] (.one (PL (aX U) B)):=by
 have hdl:(cD p).length<=p.length-1:=(by unfold cD; exact Nat.le_trans (iL _) (by rw[eX]; exact Nat.le_refl _))
 refine aD.of (n:=16) Tryz.func94 rfl rfl rfl rfl rfl fun cx hfr=>?_;refine sr rfl ?_;refine xn ?_;refine RV.done (sr rfl ?_);refine xm ?_;refine xm ?_;refine xm ?_;refine xd rfl ((aG1 p B (by omega) hp).mono (fun _ _ _ _ h=>h) (dJ h0)) Tryz.func96 (xa rfl) hfr ?_;refine xd rfl (aVe p (cD p) G B hB hp (by omega) h1) Tryz.func34 (xb rfl rfl) hfr ?_;refine xc (zL p G B hB hp hG h2) Tryz.func134 (xb rfl rfl) hfr ?_;refine xm ?_;refine p1 (cK) ?_;refine p1 (cK) ?_;refine xn ?_;refine xn ?_;refine RV.done (sr rfl ?_);refine xm ?_;refine xd rfl ((aIm U B (by omega) hU).mono (fun _ _ _ _ h=>h) (dJ hm)) Tryz.func82 (xa rfl) hfr ?_;refine xn ?_;refine RV.done ?_;refine CV.ret ?_;exact aR rfl (.inr rfl) rfl cC
end
def kG (B:Nat) (p:List Rat):Option (List Rat):=if aG (cD p) B=true then (nD B p (cD p)).bind fun G=>(dE B p G).bind fun x=>if (decide (G.length<=1000000)&&(decide (x.1.length<=1000000)&&aG (aX x.1) B))=true then some (aX x.1) else none else none
theorem aC6 (p F:List Rat) (B:Nat) (hB:B<=300000) (hp:p.length<=1000000) (h:kG B p=some F):aD Tryz.prog 94 [PL p B] (.one (PL F B)):=by
 unfold kG at h;split at h
 ·rename_i h0;obtain⟨G,h1,h⟩:=Option.bind_eq_some_iff.1 h;obtain⟨⟨U,R⟩,h2,h⟩:=Option.bind_eq_some_iff.1 h;split at h
  ·rename_i hm;rw[Bool.and_eq_true,Bool.and_eq_true] at hm;injection h with h;subst h;exact aS6 p G U R B hB hp h0 h1 (of_decide_eq_true hm.1) h2 (of_decide_eq_true hm.2.1) hm.2.2
  ·cases h
 ·cases h
theorem aQy (p:List Rat) (K:Nat) (hK:K<=1000000) (hp:p.length<=1000000):aD Tryz.prog 65 [PL p K] (.one (.v (.bool (decide (¬ (p≠[]/\aH p=0)))))):=by
 refine aD.of (n:=18) Tryz.func65 rfl rfl rfl rfl rfl fun cx hfr=>?_;refine sr rfl ?_;refine xn ?_;refine RV.done ?_;refine CV.seq ?_;refine sr rfl ?_;refine xm ?_;refine p1 (bJ bB aZ) ?_;refine xm ?_;refine RV.done ?_;refine CV.block ?_;refine CV.loop (X:={k:Nat // k<=p.length}) (fun k=>[(.s 7,.av (.one (.v (.int .i64 (k.1:Int))))),(.s 6,.av (.one (.v (.int .i64 (p.length:Int))))),(.s 5,.av (.one (PL p K))),(.s 0,.av (.one (PL p K)))]) (fun k=>p.length-k.1) ⟨0,Nat.zero_le _⟩ (bF.mk ⟨aC _,aC _,aC _,aC _,trivial⟩ rfl rfl) (fun k=>?_);obtain⟨k,hk⟩:=k;simp only;refine sr rfl ?_;refine p1 (dU) ?_;refine RV.done ?_;refine CV.seq ?_;refine CV.cond rfl (fun hc=>?_) (fun hc=>?_)
 ·have hlt:k<p.length:=(by have:=of_decide_eq_true hc; omega)
  refine CV.skip ?_;refine CV.seq ?_;refine CV.block ?_;refine sr rfl ?_;refine p1 (dB (k:=some 4) (i:=k) (eA hlt) aZ cG) ?_;refine p1 (bO aB) ?_;refine p2 (aU (i:=0) bX) ?_;refine p1 (aQ (aB).2) ?_;refine RV.done (sr rfl ?_);refine p1 (aJ aB) ?_;refine xd rfl (aQx _ _ (by omega)) Tryz.func114 (xa rfl) hfr ?_;refine p1 (lL) ?_;refine RV.done ?_;refine CV.no rfl ?_;refine CV.skip ?_;refine CV.region rfl (fun h=>nomatch h) ?_;refine p1 (cJ (c:=((k+1:Nat):Int)) (by rw[bU (by omega) (by omega)]; omega) rfl rfl bd rfl rfl) ?_;refine xm ?_;refine RV.done ?_;exact⟨⟨k+1,hlt⟩,bF.mk ⟨aC _,aC _,aC _,aC _,trivial⟩ rfl rfl,by show p.length-(k+1)<p.length-k; omega⟩
 ·refine CV.exit ?_;refine sr rfl ?_;refine xm ?_;refine xc (aQd _ _ hp) Tryz.func115 (xa rfl) hfr ?_;refine p1 (lL) ?_;refine xn ?_;refine RV.done ?_;refine CV.ret ?_;exact aR rfl (.inr rfl) rfl (gA (by rw[decide_not]))
end Vc
end Go.Proofs.YtjmbkipbmbnhjaaGreat
