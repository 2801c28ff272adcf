/-
  
-/
import Derived.Test.YtbaihklbefhgdaaGreatSC38
import Derived.Test.YtbaihklbefhgdaaGreatSC37
import Derived.Test.YtbaihklbefhgdaaGreatSC4
import Derived.Test.YtbaihklbefhgdaaGreatSC11
import Derived.Test.YtbaihklbefhgdaaGreatSC36
set_option linter.unusedVariables false
set_option linter.unusedSimpArgs false
set_option linter.unusedSectionVars false
namespace Go.Proofs.YtbaihklbefhgdaaGreat
open Dg Zn Tx
namespace Tx
/-! Codes. -/
/-! Fractions. -/
open Vc
end Tx
end Go.Proofs.YtbaihklbefhgdaaGreat

namespace Go.Proofs.YtbaihklbefhgdaaGreat
open Go.RowKit
open Go.Lib (hid)
open Dg Zn Tx
namespace Vc
section
variable {D:Type} [bO D] {P:Program} {cx:Cx D} {n:Nat} {σ:St D} {o:Oper} {d:Nat} {x y:Operand} {T T':TypeId} {k:IntKind} {a b:Int}
theorem aMh {r:Bool} (h:decide (a<b)=r) (ho:o.op=.binOp .lss T x y T') (hd:o.dst=some d) (hn:d<n) (hx:opd σ x=.av (.one (.v (.int k a)))) (hy:opd σ y=.av (.one (.v (.int k b)))):aN P cx n σ o (bH x++bH y) [(.s d,.av (.one (.v (.bool r))))]:=by
 have q:=dP (P:=P) (cx:=cx) ho hd hn hx hy;rwa[h] at q
end
end Vc
end Go.Proofs.YtbaihklbefhgdaaGreat

namespace Go.Proofs.YtbaihklbefhgdaaGreat
open Go.RowKit
open Dg Zn
namespace Vc
def aI:List Rat->List Rat
 | []=>[]
 | a::l=>if aI l=[] then (if a=0 then [] else [a]) else a::aI l
theorem rU (l:List Rat) (a:Rat):aI (l++[a])=if a=0 then aI l else l++[a]:=by
 induction l with
 | nil=>show (if aI []=[] then _ else _)=_; rfl
 | cons b l ih =>
  rw[List.cons_append,aI,ih];by_cases h:a=0
  ·rw[if_pos h,if_pos h,aI]
  ·rw[if_neg h,if_neg h,if_neg (by simp)]
theorem aCr (l:List Rat):aI l=l.take (aI l).length:=by
 induction l with
 | nil=>rfl
 | cons a l ih =>
  rw[aI];by_cases h:aI l=[]
  ·rw[if_pos h];split
   ·rfl
   ·rfl
  ·rw[if_neg h,List.length_cons,List.take_succ_cons,<- ih]
theorem mX (l:List Rat):(aI l).length<=l.length:=by
 rw[aCr];exact List.length_take_le' _ _
theorem aHn (l:List Rat):aI l=[]\/(aI l).getD ((aI l).length-1) 0≠0:=by
 induction l with
 | nil=>exact .inl rfl
 | cons a l ih =>
  rw[aI];by_cases h:aI l=[]
  ·rw[if_pos h];by_cases h0:a=0
   ·rw[if_pos h0]; exact .inl rfl
   ·rw[if_neg h0]; exact .inr h0
  ·rw[if_neg h]
   right
   have:=ih.resolve_left h;have hl:0<(aI l).length:=List.length_pos_iff.2 h;rw[List.length_cons,Nat.add_sub_cancel];obtain⟨m,hm⟩:∃ m,(aI l).length=m+1:=⟨(aI l).length-1,by omega⟩
   rw[hm] at this |-;simpa using this
def bB (l:List Rat) (K:Nat):List (SA Dm):=l.map fun a=>RT a K
abbrev PL (l:List Rat) (K:Nat):SA Dm:=.d (Dm.gen (cA (some 4) (bB l K)))
theorem aV {l:List Rat} {K:Nat}:(bB l K).length=l.length:=by simp[bB]
theorem dN {l:List Rat} {K i:Nat} (h:i<l.length):(bB l K)[i]?=some (RT (l.getD i 0) K):=by
 simp[bB,List.getElem?_eq_getElem h,List.getD_eq_getElem?_getD]
theorem pC {l:List Rat} {K:Nat}:(bB l K).flatMap SA.ptrs=[]:=by
 rw[List.flatMap_eq_nil_iff];intro s hs;obtain⟨b,_,rfl⟩:=List.mem_map.1 hs;rfl
theorem wY {l:List Rat} {K n:Nat}:(bB l K).take n=bB (l.take n) K:=by simp[bB,List.map_take]
theorem zX {l:List Rat} {K n:Nat}:(bB l K).drop n=bB (l.drop n) K:=by simp[bB,List.map_drop]
theorem zF {l m:List Rat} {K:Nat}:bB l K++bB m K=bB (l++m) K:=by simp[bB]
theorem qM {l:List Rat} {K:Nat}:∀ s∈bB l K,s.plain=true:=by
 intro s hs;obtain⟨b,_,rfl⟩:=List.mem_map.1 hs;rfl
theorem uF {l:List Rat} {K:Nat}:∀ s∈bB l K,s.kind=some (some 4):=by
 intro s hs;obtain⟨b,_,rfl⟩:=List.mem_map.1 hs;rfl
theorem aU6 {f:Nat->Rat} {K m k:Nat} (h:k<m):(kG f K m (k+1))[k]?=some (RT (f k) K):=by simp[kG,h]
def tab (g:Nat->Rat) (n:Nat):List Rat:=(List.range n).map g
theorem gT {g:Nat->Rat} {n:Nat}:(tab g n).length=n:=by simp[tab]
theorem aKb {g:Nat->Rat} {n:Nat}:tab g (n+1)=tab g n++[g n]:=by simp[tab,List.range_succ]
theorem uB {g:Nat->Rat} {K n:Nat}:iN g K n=bB (tab g n) K:=by simp[iN,bB,tab]
theorem aUo (l:List Rat):tab (fun i=>l.getD i 0) l.length=l:=by
 apply List.ext_getElem
 ·simp[tab]
 ·intro i h1 h2;simp[tab,List.getD_eq_getElem?_getD,List.getElem?_eq_getElem h2]
def atR (l:List Rat) (k:Int):Rat:=if k<0 then 0 else l.getD k.toNat 0
theorem qV (l:List Rat) (k:Nat):atR l (k:Int)=l.getD k 0:=by
 unfold atR;rw[if_neg (by omega),Int.toNat_natCast]
theorem dI {l:List Rat} {k:Nat} (h:l.length<=k):l.getD k 0=0:=by
 rw[List.getD_eq_getElem?_getD,List.getElem?_eq_none h];rfl
def aG (l:List Rat):Rat:=l.getD (l.length-1) 0
theorem aVs (l:List Rat):atR l ((l.length:Int)-1)=aG l:=by
 unfold atR aG;by_cases h:l.length=0
 ·obtain rfl:=List.eq_nil_of_length_eq_zero h;rfl
 ·rw[if_neg (by omega),show ((l.length:Int)-1).toNat=l.length-1 by omega]
theorem aVl {a:Rat}:a.num=0 ↔ a=0:=Rat.num_eq_zero
theorem uM {a:Rat}:(bA a.num 0=0) ↔ a=0:=by
 rw[<- aVl];generalize a.num=z;unfold bA;split
 ·exact⟨fun h=>absurd h (by decide),fun h=>by omega⟩
 ·split
  ·exact⟨fun h=>absurd h (by decide),fun h=>by omega⟩
  ·exact⟨fun _=>by omega,fun _=>rfl⟩
def eD (p q:List Rat):List Rat:=aI (tab (fun k=>p.getD k 0+q.getD k 0) (max p.length q.length))
def fJ (p q:List Rat):List Rat:=aI (tab (fun k=>p.getD k 0-q.getD k 0) (max p.length q.length))
def aM (p:List Rat) (a:Rat):List Rat:=aI (tab (fun k=>p.getD k 0*a) p.length)
def bN (p:List Rat):List Rat:=aI (tab (fun k=>p.getD (k+1) 0*((k+1:Nat):Rat)) (p.length-1))
end Vc
end Go.Proofs.YtbaihklbefhgdaaGreat

namespace Go.Proofs.YtbaihklbefhgdaaGreat
open Go.RowKit
open Go.Lib (hid)
open Dg Zn
namespace Vc
set_option maxRecDepth 100000
theorem bE:Tryz.prog.underlying 24=some (.slice 30):=by kernel_rfl
theorem dM:dL Tryz.prog 24 none:=dL.one (by kernel_rfl) (by kernel_rfl)
theorem aBb {a:Rat} {j k:Nat} (h:a=0) (hk:j<=k):∀ L ρ w v,(SA.d (Dm.rt 0 0 j)).is L ρ w v->(AV.one (RT a k)).is L ρ w v:=by
 subst h;exact dZ (by decide) (by decide) hk
theorem qK (l:List Rat) (K:Nat) (hl:l.length<=1000000):aD Tryz.prog 68 [PL l K] (.one (.v (.int .i64 ((l.length:Int)-1)))):=by
 refine aD.of (n:=6) Tryz.func68 rfl rfl rfl rfl rfl fun cx hfr=>?_;refine sr rfl ?_;refine xn ?_;refine RV.done (sr rfl ?_);refine xm ?_;refine p1 (bL aV bE) ?_;refine p1 (dU (c:=(l.length:Int)-1) (by rw[bV (by omega) (by omega)]) rfl rfl bd rfl rfl) ?_;refine xn ?_;refine RV.done ?_;refine CV.ret ?_;exact aS rfl (.inr rfl) rfl cL
theorem aZu (l:List Rat) (K:Nat) (k:Int):aD Tryz.prog 215 [PL l K,.v (.int .i64 k)] (.one (RT (atR l k) K)):=by
 refine aD.of (n:=18) Tryz.func215 rfl rfl rfl rfl rfl fun cx hfr=>?_;refine sr rfl ?_;refine p2 (aU (i:=0) cI) ?_;refine RV.done ?_;refine CV.seq ?_;refine sr rfl ?_;refine xm ?_;refine p1 (dP) ?_;refine xm ?_;refine RV.bool (fun hn=>?_) (fun hn=>?_)
 ·refine xk ?_;refine xk ?_;refine xk ?_;refine xk ?_;refine p1 (cX) ?_;refine RV.done ?_;refine CV.yes rfl ?_;refine sr rfl ?_;refine p1 (pA) ?_;refine p1 (aQ (aC).2) ?_;refine RV.done ?_;refine CV.ret ?_;exact aS rfl (.inr rfl) ⟨_,_,_,_,_,rfl,rfl,rfl,aC⟩ (aBb (by unfold atR; rw[if_pos (of_decide_eq_true hn)]) (Nat.zero_le _))
 ·obtain⟨j,rfl⟩:∃ j:Nat,k=(j:Int):=⟨k.toNat,by have:=of_decide_eq_false hn; omega⟩
  refine y1 (cB (.inl rfl)) ?_;refine y1 (cB (.inl rfl)) ?_;refine y1 (bL aV bE) ?_;refine y1 (qX) ?_;refine p1 (eI) ?_;refine RV.done ?_;refine CV.cond rfl (fun hc=>?_) (fun hc=>?_)
  ·refine sr rfl ?_;refine p1 (pA) ?_;refine p1 (aQ (aC).2) ?_;refine RV.done ?_;refine CV.ret ?_;exact aS rfl (.inr rfl) ⟨_,_,_,_,_,rfl,rfl,rfl,aC⟩ (aBb (by have:=of_decide_eq_true hc; rw[qV,dI (by omega)]) (Nat.zero_le _))
  ·refine CV.skip ?_;refine sr rfl ?_;refine xm ?_;refine xm ?_;refine p1 (cV (k:=some 4) (i:=j) (dN (by have:=of_decide_eq_false hc; omega)) bE cH rfl rfl bd rfl rfl (by decide)) ?_;refine p1 (bT aC) ?_;refine p1 (aQ (aC).2) ?_;refine RV.done ?_;refine CV.ret ?_;exact aS rfl (.inr rfl) ⟨_,_,_,_,_,rfl,rfl,rfl,aC⟩ (lR (by rw[qV]))
theorem xA (l:List Rat) (K:Nat) (hl:l.length<=1000000):aD Tryz.prog 173 [PL l K] (.one (RT (aG l) K)):=by
 refine aD.of (n:=7) Tryz.func173 rfl rfl rfl rfl rfl fun cx hfr=>?_;refine sr rfl ?_;refine p2 (aU (i:=0) cI) ?_;refine RV.done (sr rfl ?_);refine xm ?_;refine xm ?_;refine xc (qK _ _ hl) Tryz.func68 (xa rfl) hfr ?_;refine xc (aZu _ _ _) Tryz.func215 (xb rfl rfl) hfr ?_;refine p1 (aQ (aC).2) ?_;refine RV.done ?_;refine CV.ret ?_;exact aS rfl (.inr rfl) ⟨_,_,_,_,_,rfl,rfl,rfl,aC⟩ (lR (by rw[aVs]))
theorem aRm (l:List Rat) (K:Nat) (hl:l.length<=1000000):aD Tryz.prog 157 [PL l K] (.one (.v (.bool (decide (l≠[]/\aG l=0))))):=by
 refine aD.of (n:=12) Tryz.func157 rfl rfl rfl rfl rfl fun cx hfr=>?_;refine sr rfl ?_;refine xn ?_;refine RV.done (sr rfl ?_);refine xm ?_;refine p1 (bL aV bY) ?_;refine p1 (gC) ?_;refine xm ?_;refine RV.bool (fun hn=>?_) (fun hn=>?_)
 ·refine y1 (cB (.inl rfl)) ?_;refine y1 (cG (xA _ _ hl) rfl rfl bd Tryz.func173 rfl rfl (xa rfl) rfl hfr rfl) ?_;refine y1 (cG (zO _ _) rfl rfl bd Tryz.func64 rfl rfl (xa rfl) rfl hfr rfl) ?_;refine y1 (cW) ?_;refine p1 (cX) ?_;refine xn ?_;refine RV.done ?_;refine CV.ret ?_;have h1:l≠[]:=List.length_pos_iff.1 (by have:=of_decide_eq_true hn; omega);exact aS rfl (.inr rfl) rfl (gB (by rw[Bool.eq_iff_iff,beq_iff_eq,decide_eq_true_eq,uM]; exact⟨fun h=>⟨h1,h⟩,fun h=>h.2⟩))
 ·refine xk ?_;refine xk ?_;refine xk ?_;refine xk ?_;refine p1 (eI) ?_;refine xn ?_;refine RV.done ?_;refine CV.ret ?_;have h1:l=[]:=List.eq_nil_of_length_eq_zero (by have:=of_decide_eq_false hn; omega);exact aS rfl (.inr rfl) rfl (gB (by symm; rw[decide_eq_false_iff_not]; exact fun h=>h.1 h1))
section
variable {f : FuncId} {fn : Func} {caps : List (SA Dm)} (g : Nat -> Rat) (K N : Nat) (z : Int) (hz : N = z.toNat) (hN : z <= 1000000) (hf : Tryz.prog.funcs[f]? = some fn) (hname : (fn.name == "runtime.NumGoroutine") = false) (hb : fn.body.isSome = true) (hcon : ∀ k, k < N -> aD Tryz.prog f (.v (.int .i64 (k : Int)) :: caps) (.one (RT (g k) K)))
include hz hN hf hname hb hcon
theorem aAa:aD Tryz.prog 103 [.v (.int .i64 z),.d (Dm.gen (rM f caps))] (.one (PL (aI (tab g N)) K)):=by
 refine aD.of (n:=34) Tryz.func103 rfl rfl rfl rfl rfl fun cx hfr=>?_;refine sr rfl ?_;refine xn ?_;refine RV.done (sr rfl ?_);refine xm ?_;refine p1 (xH (c:=(N:Int)) (by split<;>omega) rfl rfl bd rfl rfl) ?_;refine p2 (xI (r:=10) (Nat.le_refl _) (by omega) (by omega) bE gL rfl rfl rfl rfl bd rfl rfl rfl rfl rfl) ?_;refine xn ?_;refine RV.done (sr rfl ?_);refine xn ?_;refine RV.done ?_;refine CV.seq ?_;refine sr rfl ?_;refine xm ?_;refine xm ?_;refine RV.done ?_;refine CV.block ?_;refine CV.loop (X:={k:Nat // k<=N}) (fun k=>[(.s 12,.av (.one (.v (.int .i64 (k.1:Int))))),(.s 11,.av (.one (.v (.int .i64 z)))),(.s 5,.av (.one (.sl 10 N))),(.b 10,.row 30 (some 4) (kG g K N k.1)),(.s 6,.av (.one (.v (.int .i64 ((aI (tab g k.1)).length:Int))))),(.s 1,.av (.one (.d (Dm.gen (rM f caps)))))]) (fun k=>N-k.1) ⟨0,Nat.zero_le _⟩ (aZ.mk ⟨aB _,aB _,aB _,fC aHv,aB _,aB _,trivial⟩ rfl rfl) (fun k=>?_);obtain⟨k,hk⟩:=k;simp only;refine sr rfl ?_;refine p1 (dP) ?_;refine RV.done ?_;refine CV.seq ?_;refine CV.cond rfl (fun hc=>?_) (fun hc=>?_)
 ·have hlt:k<N:=(by have:=of_decide_eq_true hc; omega)
  refine CV.skip ?_;refine CV.seq ?_;refine CV.block ?_;refine sr rfl ?_;refine xm ?_;refine xn ?_;refine RV.done (sr rfl ?_);refine xm ?_;refine xm ?_;refine xm ?_;refine xm ?_;refine p1 (wO (sas:=[.v (.int .i64 (k:Int))]) (hcon k hlt) hf hname hb rfl rfl bd rfl (xa rfl) rfl hfr rfl) ?_;refine p1 (mZ (i:=k) hlt (by rw[vX]; exact Nat.le_refl _) bE cH rfl rfl bd rfl rfl rfl) ?_;refine p1 (tQ (i:=k) (by rw[vX]; exact hlt) (by show 0<4; decide) cH (.inl rfl) rfl rfl rfl rfl rfl rfl rfl rfl rfl) ?_;refine RV.done ?_;refine CV.seq ?_;rw[aI1];refine CV.region rfl (fun h=>nomatch h) ?_;refine xm ?_;refine xm ?_;refine p1 (mZ (i:=k) hlt (by rw[vX]; exact Nat.le_refl _) bE cH rfl rfl bd rfl rfl rfl) ?_;refine p1 (uH (i:=k) (aU6 hlt) rfl aC (by show 0<4; decide) rfl rfl bd rfl rfl) ?_;refine xc (zO _ _) Tryz.func64 (xa rfl) hfr ?_;refine p1 (pT) ?_;refine RV.done ?_;refine CV.cond rfl (fun h0=>?_) (fun h0=>?_)
  ·refine CV.region rfl (fun h=>nomatch h) ?_;refine xm ?_;refine p1 (cP (c:=((k+1:Nat):Int)) (by rw[bV (by omega) (by omega)]; omega) rfl rfl bd rfl rfl) ?_;refine xn ?_;refine RV.done ?_;refine CV.region rfl (fun h=>nomatch h) ?_;refine p1 (cP (c:=((k+1:Nat):Int)) (by rw[bV (by omega) (by omega)]; omega) rfl rfl bd rfl rfl) ?_;refine xm ?_;refine RV.done ?_;have hne:g k≠0:=(fun e=>by rw[bne_iff_ne] at h0; exact h0 (uM.2 e))
   exact⟨⟨k+1,hlt⟩,aZ.mk ⟨aB _,aB _,aB _,aB _,iI (by show (XV.av (.one (.v (.int .i64 ((k+1:Nat):Int)))):XV Dm)=.av (.one (.v (.int .i64 ((aI (tab g (k+1))).length:Int)))); rw[aKb,rU,if_neg hne,List.length_append,gT]; rfl),aB _,trivial⟩ rfl rfl,by show N-(k+1)<N-k; omega⟩
  ·refine CV.skip ?_;refine CV.region rfl (fun h=>nomatch h) ?_;refine p1 (cP (c:=((k+1:Nat):Int)) (by rw[bV (by omega) (by omega)]; omega) rfl rfl bd rfl rfl) ?_;refine xm ?_;refine RV.done ?_;have he:g k=0:=(uM.1 (by rw[bne_eq_false_iff_eq] at h0; exact h0))
   exact⟨⟨k+1,hlt⟩,aZ.mk ⟨aB _,aB _,aB _,aB _,iI (by show (XV.av (.one (.v (.int .i64 ((aI (tab g k)).length:Int)))):XV Dm)=.av (.one (.v (.int .i64 ((aI (tab g (k+1))).length:Int)))); rw[aKb,rU,if_pos he]),aB _,trivial⟩ rfl rfl,by show N-(k+1)<N-k; omega⟩
 ·refine CV.exit ?_;refine CV.seq ?_;have hkN:k=N:=(by have:=of_decide_eq_false hc; omega)
  subst hkN;rw[aI2,uB];refine jZ (r:=10) (t:=5) (G:=Dm.gen (cA (some 4) (bB (tab g k) K))) (cx.bw hfr) rfl rfl (by rw[aV,gT]) rfl rfl (cS _ _) (iS _ _) ?_;refine CV.region rfl (fun h=>nomatch h) ?_;refine xm ?_;refine xm ?_;refine xm ?_;refine p1 (pK (k:=some 4) (l':=bB (aI (tab g k)) K) none (some (aI (tab g k)).length) (some (aI (tab g k)).length) (by show ((bB (tab g k) K).take (aI (tab g k)).length).drop 0=_; rw[List.drop_zero,wY,<- aCr]) (by decide) (Nat.zero_le _) (Nat.le_refl _) (by show (aI (tab g k)).length<=(bB (tab g k) K).length; rw[aV]; exact mX _) (fun h=>nomatch h) bE cH rfl rfl bd rfl trivial rfl rfl) ?_;refine xn ?_;refine RV.done ?_;refine CV.ret ?_;exact aS rfl (.inr rfl) rfl cL
end
abbrev iP (l:List Rat) (K:Nat):SA Dm:=.d (Dm.gen (pG none (PL l K)))
abbrev vP (a:Rat) (K:Nat):SA Dm:=.d (Dm.gen (pG (some 4) (RT a K)))
abbrev pI (z:Int):SA Dm:=.d (Dm.gen (pG none (.v (.int .i64 z))))
theorem aR6 (p:List Rat) (a:Rat) (j K k:Nat) (hj:j<=10000000) (hK:K<=10000000) (hk:k<p.length):aD Tryz.prog 152 [.v (.int .i64 (k:Int)),iP p j,vP a K] (.one (RT (p.getD k 0*a) (3*(j+K)+20))):=by
 refine aD.of (n:=11) Tryz.func152 rfl rfl rfl rfl rfl fun cx hfr=>?_;refine sr rfl ?_;refine p2 (aU (i:=0) cI) ?_;refine RV.done ?_;refine CV.seq ?_;refine CV.region rfl (fun _=>by kernel_rfl) ?_;refine p1 (bT dM) ?_;refine xm ?_;refine p1 (cV (k:=some 4) (i:=k) (dN hk) bE cH) ?_;refine p1 (bT aC) ?_;refine p1 (bT aC) ?_;refine xc (oG _ _ _ _ hj hK) Tryz.func62 (xb rfl rfl) hfr ?_;refine p1 (aQ (aC).2) ?_;refine bU (by kernel_rfl) ?_;refine CV.ret ?_;exact aS rfl (.inr rfl) ⟨_,_,_,_,_,rfl,rfl,rfl,aC⟩ cL
theorem tK (p:List Rat) (a:Rat) (j K:Nat) (hj:j<=10000000) (hK:K<=10000000) (hp:p.length<=1000000):aD Tryz.prog 80 [PL p j,RT a K] (.one (PL (aM p a) (3*(j+K)+20))):=by
 refine aD.of (n:=9) Tryz.func80 rfl rfl rfl rfl rfl fun cx hfr=>?_;refine sr rfl ?_;refine p1 (lL) ?_;refine p1 (lL) ?_;refine xn ?_;refine RV.done (sr rfl ?_);refine p1 (bT dM) ?_;refine p1 (bL aV bE) ?_;refine p1 (uR (caps:=[.tmp 2,.tmp 3]) (ss:=[_,_]) rfl rfl bd (xb rfl rfl) rfl) ?_;refine xd rfl (aAa (fun k=>p.getD k 0*a) (3*(j+K)+20) p.length (p.length:Int) (by omega) (by omega) Tryz.func152 rfl rfl (caps:=[iP p j,vP a K]) (fun k hk=>aR6 p a j K k hj hK hk)) Tryz.func103 (xb rfl rfl) hfr ?_;refine xn ?_;refine RV.done ?_;refine CV.ret ?_;exact aS rfl (.inr rfl) rfl cL
theorem aId (k:Nat):Rat.divInt ((k:Nat):Int) 1=((k:Nat):Rat):=by
 have h:=aCh ((k:Nat):Int);refine Rat.ext ?_ ?_
 ·rw[show (Rat.divInt ((k:Nat):Int) 1).num=(k:Int) by exact h.1];rfl
 ·rw[show (Rat.divInt ((k:Nat):Int) 1).den=1 by have:=h.2; omega];rfl
theorem aQ1 (p:List Rat) (j k:Nat) (hj:j<=10000000) (hk:k+1<p.length) (hp:p.length<=1000000):aD Tryz.prog 204 [.v (.int .i64 (k:Int)),iP p j] (.one (RT (p.getD (k+1) 0*((k+1:Nat):Rat)) (3*(j+6)+20))):=by
 refine aD.of (n:=13) Tryz.func204 rfl rfl rfl rfl rfl fun cx hfr=>?_;refine sr rfl ?_;refine p2 (aU (i:=0) cI) ?_;refine RV.done ?_;refine CV.seq ?_;refine CV.region rfl (fun _=>by kernel_rfl) ?_;refine p1 (bT dM) ?_;refine xm ?_;refine p1 (cP (c:=((k+1:Nat):Int)) (by rw[bV (by omega) (by omega)]; omega) rfl rfl bd rfl rfl) ?_;refine p1 (cV (k:=some 4) (i:=k+1) (dN hk) bE cH) ?_;refine p1 (bT aC) ?_;refine xm ?_;refine p1 (cP (c:=((k+1:Nat):Int)) (by rw[bV (by omega) (by omega)]; omega) rfl rfl bd rfl rfl) ?_;refine xd rfl (pQ _ _ (by omega) (by omega) (by decide) (by decide)) Tryz.func74 (xb rfl rfl) hfr ?_;refine xd rfl (oG _ _ _ _ hj (by decide)) Tryz.func62 (xb rfl rfl) hfr ?_;refine p1 (aQ (aC).2) ?_;refine bU (by kernel_rfl) ?_;refine CV.ret ?_;exact aS rfl (.inr rfl) ⟨_,_,_,_,_,rfl,rfl,rfl,aC⟩ (lR (by rw[aId]))
theorem aHl (p:List Rat) (j:Nat) (hj:j<=10000000) (hp:p.length<=1000000):aD Tryz.prog 150 [PL p j] (.one (PL (bN p) (3*(j+6)+20))):=by
 refine aD.of (n:=7) Tryz.func150 rfl rfl rfl rfl rfl fun cx hfr=>?_;refine sr rfl ?_;refine p1 (lL) ?_;refine xn ?_;refine RV.done (sr rfl ?_);refine p1 (bT dM) ?_;refine xc (qK _ _ hp) Tryz.func68 (xa rfl) hfr ?_;refine p1 (uR (caps:=[.tmp 1]) (ss:=[_]) rfl rfl bd (xa rfl) rfl) ?_;refine xd rfl (aAa (fun k=>p.getD (k+1) 0*((k+1:Nat):Rat)) (3*(j+6)+20) (p.length-1) ((p.length:Int)-1) (by omega) (by omega) Tryz.func204 rfl rfl (caps:=[iP p j]) (fun k hk=>aQ1 p j k hj (by omega) hp)) Tryz.func103 (xb rfl rfl) hfr ?_;refine xn ?_;refine RV.done ?_;refine CV.ret ?_;exact aS rfl (.inr rfl) rfl cL
def eB (p q:List Rat) (m:Rat):List Rat:=aI (tab (fun k=>if k<p.length-q.length then p.getD k 0 else p.getD k 0-m*q.getD (k-(p.length-q.length)) 0) (p.length-1))
theorem aQm (p q:List Rat) (m:Rat) (j i K k s:Nat) (hk:k<p.length) (hs:k<s):aD Tryz.prog 216 [.v (.int .i64 (k:Int)),pI (s:Int),iP p j,vP m i,iP q K] (.one (RT (p.getD k 0) j)):=by
 refine aD.of (n:=27) Tryz.func216 rfl rfl rfl rfl rfl fun cx hfr=>?_;refine sr rfl ?_;refine p2 (aU (i:=0) cI) ?_;refine RV.done ?_;refine CV.seq ?_;refine sr rfl ?_;refine xm ?_;refine p1 (bT kX) ?_;refine p1 (aMh (r:=true) (by rw[decide_eq_true_eq]; omega) rfl rfl bd rfl rfl) ?_;refine RV.done ?_;refine CV.yes rfl ?_;refine sr rfl ?_;refine p1 (bT dM) ?_;refine xm ?_;refine p1 (cV (k:=some 4) (i:=k) (dN hk) bE cH) ?_;refine p1 (bT aC) ?_;refine p1 (aQ (aC).2) ?_;refine RV.done ?_;refine CV.ret ?_;exact aS rfl (.inr rfl) ⟨_,_,_,_,_,rfl,rfl,rfl,aC⟩ cL
theorem aQl (p q:List Rat) (m:Rat) (j i K k s:Nat) (hj:j<=1000000) (hi:i<=1000000) (hK:K<=1000000) (hk:k<p.length) (hs:¬ k<s) (hq:k-s<q.length) (hs2:s<=1000000) (hp:p.length<=1000000):aD Tryz.prog 216 [.v (.int .i64 (k:Int)),pI (s:Int),iP p j,vP m i,iP q K] (.one (RT (p.getD k 0-m*q.getD (k-s) 0) (3*(j+(3*(i+K)+20))+20))):=by
 refine aD.of (n:=27) Tryz.func216 rfl rfl rfl rfl rfl fun cx hfr=>?_;refine sr rfl ?_;refine p2 (aU (i:=0) cI) ?_;refine RV.done ?_;refine CV.seq ?_;refine sr rfl ?_;refine xm ?_;refine p1 (bT kX) ?_;refine p1 (aMh (r:=false) (by rw[decide_eq_false_iff_not]; omega) rfl rfl bd rfl rfl) ?_;refine RV.done ?_;refine CV.no rfl ?_;refine CV.skip ?_;refine CV.seq ?_;refine CV.region rfl (fun _=>by kernel_rfl) ?_;refine p1 (bT dM) ?_;refine xm ?_;refine p1 (cV (k:=some 4) (i:=k) (dN hk) bE cH) ?_;refine p1 (bT aC) ?_;refine p1 (bT aC) ?_;refine p1 (bT dM) ?_;refine xm ?_;refine p1 (bT kX) ?_;refine p1 (dU (c:=((k-s:Nat):Int)) (by rw[bV (by omega) (by omega)]; omega) rfl rfl bd rfl rfl) ?_;refine p1 (cV (k:=some 4) (i:=k-s) (dN hq) bE cH) ?_;refine p1 (bT aC) ?_;refine xd rfl (oG _ _ _ _ (by omega) (by omega)) Tryz.func62 (xb rfl rfl) hfr ?_;refine xd rfl (aWq _ _ _ _ (by omega) (by omega)) Tryz.func63 (xb rfl rfl) hfr ?_;refine p1 (aQ (aC).2) ?_;refine bU (by kernel_rfl) ?_;refine CV.ret ?_;exact aS rfl (.inr rfl) ⟨_,_,_,_,_,rfl,rfl,rfl,aC⟩ cL
theorem aQn (p q:List Rat) (m:Rat) (j i K k s:Nat) (hj:j<=1000000) (hi:i<=1000000) (hK:K<=1000000) (hk:k<p.length) (hq:k<s\/k-s<q.length) (hs2:s<=1000000) (hp:p.length<=1000000):aD Tryz.prog 216 [.v (.int .i64 (k:Int)),pI (s:Int),iP p j,vP m i,iP q K] (.one (RT (if k<s then p.getD k 0 else p.getD k 0-m*q.getD (k-s) 0) (3*(j+(3*(i+K)+20))+20))):=by
 by_cases h:k<s
 ·rw[if_pos h];exact(aQm p q m j i K k s hk h).mono (fun _ _ _ _ h=>h) (dZ rfl rfl (by omega))
 ·rw[if_neg h];exact aQl p q m j i K k s hj hi hK hk h (hq.resolve_left h) hs2 hp
theorem aHu (p q:List Rat) (m:Rat) (j i K:Nat) (hj:j<=1000000) (hi:i<=1000000) (hK:K<=1000000) (hp:p.length<=1000000) (hqp:q.length<=p.length):aD Tryz.prog 177 [PL p j,PL q K,RT m i] (.one (PL (eB p q m) (3*(j+(3*(i+K)+20))+20))):=by
 refine aD.of (n:=17) Tryz.func177 rfl rfl rfl rfl rfl fun cx hfr=>?_;refine sr rfl ?_;refine p1 (lL) ?_;refine p1 (lL) ?_;refine p1 (lL) ?_;refine xn ?_;refine RV.done (sr rfl ?_);refine p1 (bT dM) ?_;refine p1 (bL aV bE) ?_;refine p1 (bT dM) ?_;refine p1 (bL aV bE) ?_;refine p1 (dU (c:=((p.length-q.length:Nat):Int)) (by rw[bV (by omega) (by omega)]; omega) rfl rfl bd rfl rfl) ?_;refine gI (aN.plain (aTa (r:=7) (k:=none) aUh rfl rfl rfl bd rfl rfl rfl) rfl) ?_;refine p1 (tQ (i:=0) (by decide) (by show 0<1; decide) aFt (.inr rfl) rfl rfl rfl rfl rfl rfl rfl rfl rfl) ?_;refine RV.done ?_;refine CV.seq ?_;refine aSa (r:=7) (t:=7) (cx.bw hfr) rfl rfl rfl rfl ?_;refine CV.kp [] rfl rfl ?_;refine CV.region rfl (fun h=>nomatch h) ?_;refine p1 (bT dM) ?_;refine xc (qK _ _ hp) Tryz.func68 (xa rfl) hfr ?_;refine p1 (uR (caps:=[.tmp 7,.tmp 3,.tmp 5,.tmp 4]) (ss:=[_,_,_,_]) rfl rfl bd (.cons rfl cT.any (.cons rfl cT.any (xb rfl rfl))) rfl) ?_;refine xd rfl (aAa (fun k=>if k<p.length-q.length then p.getD k 0 else p.getD k 0-m*q.getD (k-(p.length-q.length)) 0) (3*(j+(3*(i+K)+20))+20) (p.length-1) ((p.length:Int)-1) (by omega) (by omega) Tryz.func216 rfl rfl (caps:=[pI ((p.length-q.length:Nat):Int),iP p j,vP m i,iP q K]) (fun k hk=>aQn p q m j i K k (p.length-q.length) hj hi hK (by omega) (by omega) (by omega) hp)) Tryz.func103 (xb rfl rfl) hfr ?_;refine xn ?_;refine RV.done ?_;refine CV.ret ?_;exact aS rfl (.inr rfl) rfl cL
theorem aIx (p q:List Rat) (j K:Nat) (hj:j<=1000000) (hK:K<=1000000) (hp:p.length<=1000000) (hq:q.length<=1000000):aD Tryz.prog 176 [PL p j,PL q K] (.one (RT (aG p/aG q) (3*(j+K)+40))):=by
 refine aD.of (n:=10) Tryz.func176 rfl rfl rfl rfl rfl fun cx hfr=>?_;refine sr rfl ?_;refine p2 (aU (i:=0) cI) ?_;refine RV.done (sr rfl ?_);refine xm ?_;refine xc (xA _ _ hp) Tryz.func173 (xa rfl) hfr ?_;refine xm ?_;refine xc (xA _ _ hq) Tryz.func173 (xa rfl) hfr ?_;refine xc (pE _ _ _ _ hj hK) Tryz.func70 (xb rfl rfl) hfr ?_;refine p1 (aQ (aC).2) ?_;refine RV.done ?_;refine CV.ret ?_;exact aS rfl (.inr rfl) ⟨_,_,_,_,_,rfl,rfl,rfl,aC⟩ cL
theorem aHh (a:Rat) (K:Nat) (hK:K<=1000000):aD Tryz.prog 175 [RT a K] (.one (RT (1/a) (3*(6+K)+40))):=by
 refine aD.of (n:=6) Tryz.func175 rfl rfl rfl rfl rfl fun cx hfr=>?_;refine sr rfl ?_;refine p2 (cC (i:=0)) ?_;refine p2 (aU (i:=1) cI) ?_;refine RV.done ?_;refine CV.seq ?_;refine CV.region rfl (fun _=>by kernel_rfl) ?_;refine xd rfl (pQ _ _ (by decide) (by decide) (by decide) (by decide)) Tryz.func74 (xb rfl rfl) hfr ?_;refine p1 (aJ aC) ?_;refine xd rfl (pE _ _ _ _ (by decide) hK) Tryz.func70 (xb rfl rfl) hfr ?_;refine p1 (aQ (aC).2) ?_;refine bU (by kernel_rfl) ?_;refine CV.ret ?_;exact aS rfl (.inr rfl) ⟨_,_,_,_,_,rfl,rfl,rfl,aC⟩ (lR (by rw[show Rat.divInt 1 1=1 from by decide]))
def aY (p:List Rat):List Rat:=aM p (1/aG p)
theorem aJb (p:List Rat) (K:Nat) (hK:K<=1000000) (hp:p.length<=1000000):aD Tryz.prog 108 [PL p K] (.one (PL (aY p) (3*(K+(3*(6+K)+40))+20))):=by
 refine aD.of (n:=8) Tryz.func108 rfl rfl rfl rfl rfl fun cx hfr=>?_;refine sr rfl ?_;refine xn ?_;refine RV.done (sr rfl ?_);refine xm ?_;refine xm ?_;refine xc (xA _ _ hp) Tryz.func173 (xa rfl) hfr ?_;refine xc (aHh _ _ hK) Tryz.func175 (xa rfl) hfr ?_;refine xd rfl (tK _ _ _ _ (by omega) (by omega) hp) Tryz.func80 (xb rfl rfl) hfr ?_;refine xn ?_;refine RV.done ?_;refine CV.ret ?_;exact aS rfl (.inr rfl) rfl cL
/-! Sizes. -/
def aH (l:List Rat) (B:Nat):Bool:=l.all fun a=>decide (len a.num<=B)&&decide (len (qd a)<=B)
theorem qO {a:Rat} {B:Nat} (h:aH [a] B=true):len a.num<=B/\len (qd a)<=B:=by
 simpa[aH] using h
theorem aAl {l:List Rat} {B:Nat} (h:aH l B=true) {a:Rat} (ha:a∈l):len a.num<=B/\len (qd a)<=B:=by
 have:=List.all_eq_true.1 h a ha;simpa using this
theorem aOv {a:Rat} {K B:Nat} (h:len a.num<=B/\len (qd a)<=B) {w:World} {v:Value} (hv:(RT a K).at w v):(RT a B).at w v:=by
 obtain⟨s,t,h1,h2,h3,_,_⟩:=hv;exact⟨s,t,h1,h2,h3,h.1,h.2⟩
theorem aZ1 {a:Rat} {K B:Nat} (h:aH [a] B=true):∀ L ρ w v,(RT a K).is L ρ w v->(RT a B).is L ρ w v:=fun _ _ _ _ hv w' hw=>aOv (qO h) (hv w' hw)
inductive fW {α β:Type} (R:α -> β->Prop):List α->List β->Prop where
 | nil:fW R [] []
 | cons {a:α} {b : β} {l:List α} {m:List β}:R a b->fW R l m->fW R (a::l) (b::m)
theorem fW.length_eq {α β:Type} {R:α -> β->Prop} {l:List α} {m:List β} (h:fW R l m):l.length=m.length:=by
 induction h with
 | nil=>rfl
 | cons _ _ ih=>rw[List.length_cons,List.length_cons,ih]
theorem eQ {a:Rat} {K B:Nat} (h:aH [a] B=true):∀ L ρ w v,(AV.one (RT a K)).is L ρ w v->(AV.one (RT a B)).is L ρ w v:=aZ1 h
theorem aOn {w:World} {k:Option Nat}:∀ {l l':List (SA Dm)} {cs:List Value},fW (fun s s':SA Dm=>∀ w v,s.at w v->s'.at w v) l l'->dF w k l cs->dF w k l' cs
 | [],[],_,_,h=>h
 | _::_,_::_,_,.cons h1 h2,⟨p,r,v,e1,e2,e3,e4⟩=>⟨p,r,v,e1,e2,h1 _ _ e3,aOn h2 e4⟩
theorem aFz {k:Option Nat} {l l':List (SA Dm)} (h:fW (fun s s':SA Dm=>∀ w v,s.at w v->s'.at w v) l l'):∀ L ρ w v,(SA.d (Dm.gen (cA k l))).is L ρ w v->(SA.d (Dm.gen (cA k l'))).is L ρ w v:=by
 intro L ρ w v hv w' hw;have hl:=h.length_eq;obtain⟨ao,cap,rfl,h1,h2⟩:=hv w' hw;refine⟨ao,cap,by rw[hl],by rw[<- hl]; exact h1,fun hp=>?_⟩;obtain⟨b,off,e,cs,h3,h4⟩:=h2 (by rw[hl]; exact hp);exact⟨b,off,e,cs,aOn h h3,h4⟩
theorem aZ4 {l:List Rat} {K B:Nat} (h:aH l B=true):∀ L ρ w v,(PL l K).is L ρ w v->(PL l B).is L ρ w v:=by
 refine aFz ?_;have:∀ m:List Rat,(∀ a∈m,len a.num<=B/\len (qd a)<=B)->fW (fun s s':SA Dm=>∀ w v,s.at w v->s'.at w v) (bB m K) (bB m B):=by
  intro m
  induction m with
  | nil=>intro _; exact .nil
  | cons a m ih=>intro hm; exact .cons (fun w v hv=>aOv (hm a List.mem_cons_self) hv) (ih fun x hx=>hm x (List.mem_cons_of_mem _ hx))
 exact this l fun a ha=>aAl h ha
theorem eR {l:List Rat} {K B:Nat} (h:aH l B=true):∀ L ρ w v,(AV.one (PL l K)).is L ρ w v->(AV.one (PL l B)).is L ρ w v:=aZ4 h
theorem aUx (p q:List Rat) (m:Rat):(eB p q m).length<=p.length-1:=by
 unfold eB;refine Nat.le_trans (mX _) ?_;rw[gT];exact Nat.le_refl _
/-! Div. -/
def oV (u:List (Option Rat)) (B:Nat):List (SA Dm):=u.map fun o=>match o with | none=>.v dX | some a=>RT a B
theorem aCv {u:List (Option Rat)} {B:Nat}:(oV u B).length=u.length:=by simp[oV]
theorem aU4 {n B:Nat}:List.replicate n (SA.v dX:SA Dm)=oV (List.replicate n none) B:=by simp[oV]
theorem aXj {u:List (Option Rat)} {B i:Nat} {a:Rat}:(oV u B).set i (RT a B)=oV (u.set i (some a)) B:=by simp[oV,List.map_set]
theorem aY5 {u:List (Option Rat)} {B:Nat}:∀ L ρ w v,(SA.d (Dm.gen (cA (some 4) (oV u B)))).is L ρ w v->(PL (u.map fun o=>o.getD 0) B).is L ρ w v:=by
 refine aFz ?_
 induction u with
 | nil=>exact .nil
 | cons o u ih =>
  refine .cons (fun w v hv=>?_) ih;cases o with
  | none =>
   obtain rfl:v=dX:=hv;have h0:(aA (0:Int).natAbs).length<=B:=by rw[show (0:Int).natAbs=0 from rfl,gA]; exact Nat.zero_le _
   exact⟨_,_,rfl,aL.nil (by decide),aL.nil (by decide),h0,h0⟩
  | some a=>exact hv
def iY (B:Nat) (q:List Rat):Nat->List (Option Rat)->List Rat->Option (List (Option Rat) × List Rat)
 | 0,_,_=>none
 | n+1,u,r=>if q.length<=r.length then (if (aH [aG r/aG q] B&&aH (eB r q (aG r/aG q)) B)=true then iY B q n (u.set (r.length-q.length) (some (aG r/aG q))) (eB r q (aG r/aG q)) else none) else some (u,r)
theorem aJt {B n:Nat} {q r:List Rat} {u:List (Option Rat)} {X:List (Option Rat) × List Rat} (h:iY B q n u r=some X) (hl:q.length<=r.length) :
  ∃ m,aH [aG r/aG q] B=true/\aH (eB r q (aG r/aG q)) B=true/\iY B q m (u.set (r.length-q.length) (some (aG r/aG q))) (eB r q (aG r/aG q))=some X:=by
 cases n with
 | zero=>cases h
 | succ n =>
  rw[iY,if_pos hl] at h;split at h
  ·rename_i h2;rw[Bool.and_eq_true] at h2;exact⟨n,h2.1,h2.2,h⟩
  ·cases h
theorem aLh {B n:Nat} {q r:List Rat} {u:List (Option Rat)} {X:List (Option Rat) × List Rat} (h:iY B q n u r=some X) (hl:¬ q.length<=r.length):X=(u,r):=by
 cases n with
 | zero=>cases h
 | succ n =>
  rw[iY,if_neg hl] at h;injection h with h;exact h.symm
def dK (B:Nat) (p q:List Rat):Option (List Rat × List Rat):=if q=[] then some ([],[]) else (iY B q (p.length+2) (List.replicate (p.length+1-q.length) none) p).map fun x=>(x.1.map fun o=>o.getD 0,x.2)
theorem oK {K:Nat}:∀ (L:Nat->Prop) (ρ:aR) (w:World) (v:Value),(SA.v (.slice none 0 0):SA Dm).is L ρ w v->(PL [] K).is L ρ w v:=by
 intro L ρ w v h w' _;obtain rfl:v=_:=h;exact⟨none,0,rfl,⟨Nat.le_refl _,by decide⟩,fun h=>absurd h (Nat.lt_irrefl 0)⟩
theorem aWy (p:List Rat) (K B:Nat):aD Tryz.prog 203 [PL p K,PL [] B] (.tup [PL [] B,PL [] B]):=by
 refine aD.of (n:=43) Tryz.func203 rfl rfl rfl rfl rfl fun cx hfr=>?_;refine sr rfl ?_;refine xn ?_;refine xn ?_;refine RV.done ?_;refine CV.seq ?_;refine sr rfl ?_;refine xm ?_;refine p1 (bL aV bE) ?_;refine p1 (cW) ?_;refine RV.done ?_;refine CV.cond rfl (fun hc=>?_) (fun hc=>False.elim (by simp at hc));refine sr rfl ?_;refine xn ?_;refine xn ?_;refine RV.done ?_;refine CV.ret ?_;exact lS rfl (.inr rfl) rfl rfl (aAt oK oK)
section
variable (p q:List Rat) (B:Nat) (U:List (Option Rat)) (R:List Rat) (hB:B<=300000) (hp:p.length<=1000000) (hq:q.length<=1000000) (hq0:q≠[]) (h:iY B q (p.length+2) (List.replicate (p.length+1-q.length) none) p=some (U,R))
include hB hp hq hq0 h
theorem aWx:aD Tryz.prog 203 [PL p B,PL q B] (.tup [PL (U.map fun o=>o.getD 0) B,PL R B]):=by
 have hql:0<q.length:=List.length_pos_iff.2 hq0;refine aD.of (n:=43) Tryz.func203 rfl rfl rfl rfl rfl fun cx hfr=>?_;refine sr rfl ?_;refine xn ?_;refine xn ?_;refine RV.done ?_;refine CV.seq ?_;refine sr rfl ?_;refine xm ?_;refine p1 (bL aV bE) ?_;refine p1 (cW) ?_;refine RV.done ?_;refine CV.cond rfl (fun hc=>False.elim (by simp at hc; exact hq0 hc)) (fun hc=>?_);refine CV.skip ?_;refine sr rfl ?_;refine xm ?_;refine p1 (bL aV bE) ?_;refine xm ?_;refine p1 (bL aV bE) ?_;refine p1 (dU (c:=(p.length:Int)-q.length) (by rw[bV (by omega) (by omega)]) rfl rfl bd rfl rfl) ?_;refine p1 (cP (c:=(p.length:Int)-q.length+1) (by rw[bV (by omega) (by omega)]) rfl rfl bd rfl rfl) ?_;refine p1 (xH (c:=((p.length+1-q.length:Nat):Int)) (by split<;>omega) rfl rfl bd rfl rfl) ?_;refine p2 (xI (r:=19) (Nat.le_refl _) (by omega) (by omega) bE gL rfl rfl rfl rfl bd rfl rfl rfl rfl rfl) ?_;refine xm ?_;refine xn ?_;refine xn ?_;refine RV.done ?_;refine CV.seq ?_;refine CV.block ?_;refine CV.loop (X:={s:Nat × List (Option Rat) × List Rat // iY B q s.1 s.2.1 s.2.2=some (U,R)/\s.2.1.length=p.length+1-q.length/\s.2.2.length<=p.length}) (fun s=>[(.s 7,.av (.one (PL s.1.2.2 B))),(.s 6,.av (.one (.sl 19 (p.length+1-q.length)))),(.b 19,.row 30 (some 4) (oV s.1.2.1 B)),(.s 1,.av (.one (PL q B)))]) (fun s=>s.1.2.2.length) ⟨(p.length+2,List.replicate (p.length+1-q.length) none,p),h,by rw[List.length_replicate],Nat.le_refl _⟩ (aZ.mk ⟨aB _,aB _,fC aU4,aB _,trivial⟩ rfl rfl) (fun s=>?_);obtain⟨⟨n,u,r⟩,hs,hu,hr⟩:=s;simp only at hs hu hr |-;refine CV.seq ?_;refine sr rfl ?_;refine xm ?_;refine p1 (bL aV bE) ?_;refine xm ?_;refine p1 (bL aV bE) ?_;refine p1 (qX) ?_;refine RV.done ?_;refine CV.cond rfl (fun hc=>?_) (fun hc=>?_)
 ·have hle:q.length<=r.length:=(by have:=of_decide_eq_true hc; omega)
  obtain⟨m,hs1,hs2,hs3⟩:=aJt hs hle;have hrl:=aUx r q (aG r/aG q);refine CV.skip ?_;refine CV.block ?_;refine sr rfl ?_;refine xm ?_;refine xm ?_;refine xd rfl ((aIx r q B B (by omega) (by omega) (by omega) hq).mono (fun _ _ _ _ h=>h) (eQ hs1)) Tryz.func176 (xb rfl rfl) hfr ?_;refine p2 (aU (i:=0) cI) ?_;refine p1 (aQ (aC).2) ?_;refine RV.done (sr rfl ?_);refine xm ?_;refine xm ?_;refine p1 (bL aV bE) ?_;refine xm ?_;refine p1 (bL aV bE) ?_;refine p1 (dU (c:=((r.length-q.length:Nat):Int)) (by rw[bV (by omega) (by omega)]; omega) rfl rfl bd rfl rfl) ?_;refine p1 (aJ aC) ?_;refine p1 (mZ (i:=r.length-q.length) (by omega) (by rw[aCv]; omega) bE cH rfl rfl bd rfl rfl rfl) ?_;refine p1 (tQ (i:=r.length-q.length) (by rw[aCv]; omega) (by show 0<4; decide) cH (.inl rfl) rfl rfl rfl rfl rfl rfl rfl rfl rfl) ?_;refine RV.done ?_;refine CV.region rfl (fun h=>nomatch h) ?_;refine xm ?_;refine xm ?_;refine p1 (aJ aC) ?_;refine xd rfl ((aHu r q (aG r/aG q) B B B (by omega) (by omega) (by omega) (by omega) hle).mono (fun _ _ _ _ h=>h) (eR hs2)) Tryz.func177 (.cons rfl cT.any (xb rfl rfl)) hfr ?_;refine xn ?_;refine RV.done ?_;exact⟨⟨(m,u.set (r.length-q.length) (some (aG r/aG q)),eB r q (aG r/aG q)),hs3,by rw[List.length_set]; exact hu,by show (eB r q (aG r/aG q)).length<=p.length; omega⟩,aZ.mk ⟨aB _,aB _,fC aXj,aB _,trivial⟩ rfl rfl,by show (eB r q (aG r/aG q)).length<r.length; omega⟩
 ·refine CV.exit ?_;refine CV.seq ?_;have hX:=aLh hs (by have:=of_decide_eq_false hc; omega);obtain⟨rfl,rfl⟩:U=u/\R=r:=(Prod.mk.inj hX)
  refine jZ (r:=19) (t:=6) (G:=Dm.gen (cA (some 4) (oV U B))) (cx.bw hfr) rfl rfl (by rw[aCv]; exact hu.symm) rfl rfl (cS _ _) (iS _ _) ?_;refine CV.region rfl (fun h=>nomatch h) ?_;refine xm ?_;refine xm ?_;refine xn ?_;refine xn ?_;refine RV.done ?_;refine CV.ret ?_;exact lS rfl (.inr rfl) rfl rfl (aAt aY5 (fun _ _ _ _ h=>h))
end
theorem aAi (p q:List Rat) (B:Nat) {U R:List Rat} (hB:B<=300000) (hp:p.length<=1000000) (hq:q.length<=1000000) (h:dK B p q=some (U,R)):aD Tryz.prog 203 [PL p B,PL q B] (.tup [PL U B,PL R B]):=by
 unfold dK at h;by_cases h0:q=[]
 ·rw[if_pos h0] at h;injection h with h;obtain⟨rfl,rfl⟩:=Prod.mk.inj h;subst h0;exact aWy p B B
 ·rw[if_neg h0] at h;obtain⟨⟨u,r⟩,h1,h2⟩:=Option.map_eq_some_iff.1 h;obtain⟨rfl,rfl⟩:=Prod.mk.inj h2;exact aWx p q B u r hB hp hq h0 h1
abbrev wR (z:Int):Rat:=Rat.divInt z 1
theorem w_num (z:Int):(wR z).num=z:=(aCh z).1
theorem bAh (z:Int):qd (wR z)=0:=by
 have h:=(aCh z).2;have h1:(Rat.divInt z 1).den=1:=by omega
 show (if (Rat.divInt z 1).den=1 then (0:Int) else _)=0;rw[if_pos h1]
section
variable {cx:Cx Dm} {n:Nat} {σ:St Dm} {o:Oper} {d:Nat} {x:Operand}
theorem aCw {p:Int} {k:Nat} (ho:o.op=.build 30 #[(0,x)]) (hd:o.dst=some d) (hn:d<n) (hx:opd σ x=.av (.one (.d (.int p k)))):aN Tryz.prog cx n σ o (bH x) [(.s d,.av (.one (RT (wR p) k)))]:=by
 have h:=rY (cx:=cx) ho hd hn hx;show aN _ _ _ _ _ _ [(.s d,.av (.one (.d (Dm.rt (wR p).num (qd (wR p)) k))))];rw[w_num,bAh];exact h
end
theorem aI6 (a:Rat) (K:Nat):aD Tryz.prog 174 [RT a K] (.tup [RT (wR a.num) K,RT (wR (a.den:Int)) (K+3)]):=by
 refine aD.of (n:=10) Tryz.func174 rfl rfl rfl rfl rfl fun cx hfr=>?_;refine sr rfl ?_;refine p2 (cC (i:=0)) ?_;refine p2 (aU (i:=1) cI) ?_;refine p2 (aU (i:=2) cI) ?_;refine RV.done ?_;refine CV.seq ?_;refine CV.region rfl (fun _=>by kernel_rfl) ?_;refine p1 (bJ dH) ?_;refine p1 (bM 0 dG aK) ?_;refine p1 (aCw rfl rfl bd rfl) ?_;refine p1 (aJ aC) ?_;refine xc (iJ _ _) Tryz.func138 (xa rfl) hfr ?_;refine p1 (aCw rfl rfl bd rfl) ?_;refine p1 (aQ (aC).2) ?_;refine p1 (aQ (aC).2) ?_;refine bU (by kernel_rfl) ?_;refine CV.ret ?_;exact lS rfl (.inr rfl) ⟨_,_,_,_,_,rfl,rfl,rfl,aC⟩ ⟨_,_,_,_,_,rfl,rfl,rfl,aC⟩ sJ
def fU (q p:List Rat):Rat:=aG p/aG q
def jP (q p:List Rat):List Rat:=aM p (wR ((fU q p).den:Int))
def mulN (q p:List Rat):List Rat:=eB (jP q p) q (wR (fU q p).num)
def vJ (B:Nat) (q p:List Rat):Bool:=(aH [fU q p] B&&aH (jP q p) B)&&(aH (mulN q p) B&&(decide (q.length<=(jP q p).length)&&decide ((mulN q p).length<p.length)))
theorem aKw {B:Nat} {q p:List Rat} (h:vJ B q p=true):aH [fU q p] B=true/\aH (jP q p) B=true/\aH (mulN q p) B=true/\q.length<=(jP q p).length/\(mulN q p).length<p.length:=by
 unfold vJ at h;rw[Bool.and_eq_true,Bool.and_eq_true,Bool.and_eq_true,Bool.and_eq_true] at h;exact⟨h.1.1,h.1.2,h.2.1,of_decide_eq_true h.2.2.1,of_decide_eq_true h.2.2.2⟩
def kZ (B:Nat) (q:List Rat):Nat->List Rat->Option (List Rat)
 | 0,_=>none
 | n+1,p=>if q.length<=p.length then (if vJ B q p=true then kZ B q n (mulN q p) else none) else some p
theorem aTe {B n:Nat} {q p R:List Rat} (h:kZ B q n p=some R) (hl:q.length<=p.length):vJ B q p=true/\∃ m,kZ B q m (mulN q p)=some R:=by
 cases n with
 | zero=>cases h
 | succ n =>
  rw[kZ,if_pos hl] at h;split at h
  ·rename_i h2; exact⟨h2,n,h⟩
  ·cases h
theorem aVn {B n:Nat} {q p R:List Rat} (h:kZ B q n p=some R) (hl:¬ q.length<=p.length):R=p:=by
 cases n with
 | zero=>cases h
 | succ n =>
  rw[kZ,if_neg hl] at h;injection h with h;exact h.symm
theorem mF (p:List Rat) (a:Rat):(aM p a).length<=p.length:=by
 unfold aM;refine Nat.le_trans (mX _) ?_;rw[gT];exact Nat.le_refl _
section
variable (p q R:List Rat) (B n:Nat) (hB:B<=300000) (hp:p.length<=1000000) (hq:q.length<=1000000) (h:kZ B q n p=some R)
include hB hp hq h
theorem aP7:aD Tryz.prog 107 [PL p B,PL q B] (.one (PL R B)):=by
 refine aD.of (n:=26) Tryz.func107 rfl rfl rfl rfl rfl fun cx hfr=>?_;refine sr rfl ?_;refine xn ?_;refine RV.done ?_;refine CV.seq ?_;refine CV.block ?_;refine CV.loop (X:={s:Nat × List Rat // kZ B q s.1 s.2=some R/\s.2.length<=p.length}) (fun s=>[(.s 0,.av (.one (PL s.1.2 B))),(.s 1,.av (.one (PL q B)))]) (fun s=>s.1.2.length) ⟨(n,p),h,Nat.le_refl _⟩ (aZ.mk ⟨aB _,aB _,trivial⟩ rfl rfl) (fun s=>?_);obtain⟨⟨n,r⟩,hs,hr⟩:=s;simp only at hs hr |-;refine CV.seq ?_;refine sr rfl ?_;refine xm ?_;refine p1 (bL aV bE) ?_;refine xm ?_;refine p1 (bL aV bE) ?_;refine p1 (qX) ?_;refine RV.done ?_;refine CV.cond rfl (fun hc=>?_) (fun hc=>?_)
 ·have hle:q.length<=r.length:=(by have:=of_decide_eq_true hc; omega)
  obtain⟨hok,m,hs2⟩:=aTe hs hle;obtain⟨o1,o2,o3,o4,o5⟩:=aKw hok;have hsl:=mF r (wR ((fU q r).den:Int));refine CV.skip ?_;refine CV.block ?_;refine sr rfl ?_;refine xm ?_;refine xm ?_;refine xd rfl ((aIx r q B B (by omega) (by omega) (by omega) hq).mono (fun _ _ _ _ h=>h) (eQ o1)) Tryz.func176 (xb rfl rfl) hfr ?_;refine xc (aI6 (fU q r) B) Tryz.func174 (xa rfl) hfr ?_;refine xm ?_;refine p1 (cO) ?_;refine p1 (cO) ?_;refine p2 (aU (i:=0) cI) ?_;refine p2 (aU (i:=1) cI) ?_;refine p1 (aQ (aC).2) ?_;refine p1 (aQ (aC).2) ?_;refine RV.done ?_;refine CV.region rfl (fun _=>by kernel_rfl) ?_;refine xm ?_;refine p1 (aJ aC) ?_;refine xd rfl ((tK r (wR ((fU q r).den:Int)) B (B+3) (by omega) (by omega) (by omega)).mono (fun _ _ _ _ h=>h) (eR o2)) Tryz.func80 (xb rfl rfl) hfr ?_;refine xm ?_;refine p1 (aJ aC) ?_;refine xd rfl ((aHu (jP q r) q (wR (fU q r).num) B B B (by omega) (by omega) (by omega) (by show (aM r _).length<=_; omega) o4).mono (fun _ _ _ _ h=>h) (eR o3)) Tryz.func177 (.cons rfl cT.any (xb rfl rfl)) hfr ?_;refine xn ?_;refine bU (by kernel_rfl) ?_;exact⟨⟨(m,mulN q r),hs2,by show (mulN q r).length<=p.length; omega⟩,aZ.mk ⟨aB _,aB _,trivial⟩ rfl rfl,o5⟩
 ·refine CV.exit ?_;refine CV.seq ?_;have hX:=aVn hs (by have:=of_decide_eq_false hc; omega);subst hX;refine CV.region rfl (fun h=>nomatch h) ?_;refine xm ?_;refine xn ?_;refine RV.done ?_;refine CV.ret ?_;exact aS rfl (.inr rfl) rfl cL
end
theorem aKx {B:Nat} {q:List Rat}:∀ {n:Nat} {p R:List Rat},kZ B q n p=some R->R.length<=p.length
 | 0,_,_,h=>by cases h
 | n+1,p,R,h=>by
  rw[kZ] at h;split at h
  ·split at h
   ·rename_i h2;have:=aKx h;have:=(aKw h2).2.2.2.2;omega
   ·cases h
  ·injection h with h;subst h;exact Nat.le_refl _
def gM (B:Nat):List Rat->Rat->Option Rat
 | [],d=>some d
 | a::l,d=>if (aH [a/d] B&&aH [d/wR ((a/d).den:Int)] B)=true then gM B l (d/wR ((a/d).den:Int)) else none
theorem aHw {B:Nat} {a d D:Rat} {l:List Rat} (h:gM B (a::l) d=some D):aH [a/d] B=true/\aH [d/wR ((a/d).den:Int)] B=true/\gM B l (d/wR ((a/d).den:Int))=some D:=by
 rw[gM] at h;split at h
 ·rename_i h2;rw[Bool.and_eq_true] at h2;exact⟨h2.1,h2.2,h⟩
 ·cases h
theorem aJr {l:List Rat} {k:Nat} (h:k<l.length):l.drop k=l.getD k 0::l.drop (k+1):=by
 rw[List.drop_eq_getElem_cons h];simp[List.getD_eq_getElem?_getD,List.getElem?_eq_getElem h]
section
variable (p:List Rat) (D:Rat) (B:Nat) (hB:B<=300000) (hp:p.length<=1000000) (h:gM B p (aG p)=some D) (h1:aH [1/D] B=true) (h2:aH (aM p (1/D)) B=true)
include hB hp h h1 h2
theorem aPu:aD Tryz.prog 106 [PL p B] (.one (PL (aM p (1/D)) B)):=by
 refine aD.of (n:=31) Tryz.func106 rfl rfl rfl rfl rfl fun cx hfr=>?_;refine sr rfl ?_;refine xn ?_;refine RV.done (sr rfl ?_);refine xm ?_;refine xc (xA _ _ hp) Tryz.func173 (xa rfl) hfr ?_;refine p2 (aU (i:=0) cI) ?_;refine p1 (aQ (aC).2) ?_;refine RV.done ?_;refine CV.seq ?_;refine sr rfl ?_;refine xm ?_;refine p1 (bL aV bE) ?_;refine xm ?_;refine RV.done ?_;refine CV.block ?_;refine CV.loop (X:={s:Nat × Rat // s.1<=p.length/\gM B (p.drop s.1) s.2=some D}) (fun s=>[(.s 12,.av (.one (.v (.int .i64 (s.1.1:Int))))),(.s 11,.av (.one (.v (.int .i64 (p.length:Int))))),(.s 10,.av (.one (PL p B))),(.s 0,.av (.one (PL p B))),(.s 3,.av (.one (.ptr 0 0))),(.b 0,.blk 30 [(some 4,RT s.1.2 B)])]) (fun s=>p.length-s.1.1) ⟨(0,aG p),Nat.zero_le _,h⟩ (aZ.mk ⟨aB _,aB _,aB _,aB _,aB _,aB _,trivial⟩ rfl rfl) (fun s=>?_);obtain⟨⟨k,e⟩,hk,hs⟩:=s;simp only at hk hs |-;refine sr rfl ?_;refine p1 (dP) ?_;refine RV.done ?_;refine CV.seq ?_;refine CV.cond rfl (fun hc=>?_) (fun hc=>?_)
 ·have hlt:k<p.length:=(by have:=of_decide_eq_true hc; omega)
  rw[aJr hlt] at hs;obtain⟨o1,o2,o3⟩:=aHw hs;refine CV.skip ?_;refine CV.seq ?_;refine CV.block ?_;refine sr rfl ?_;refine p1 (cV (k:=some 4) (i:=k) (dN hlt) bE cH) ?_;refine p1 (bT aC) ?_;refine p2 (aU (i:=1) cI) ?_;refine p1 (aQ (aC).2) ?_;refine RV.done (sr rfl ?_);refine p1 (aJ aC) ?_;refine p1 (aJ aC) ?_;refine xd rfl ((pE (p.getD k 0) e B B (by omega) (by omega)).mono (fun _ _ _ _ h=>h) (eQ o1)) Tryz.func70 (xb rfl rfl) hfr ?_;refine xc (aI6 (p.getD k 0/e) B) Tryz.func174 (xa rfl) hfr ?_;refine xm ?_;refine p1 (cO) ?_;refine p1 (cO) ?_;refine p2 (aU (i:=2) cI) ?_;refine p2 (aU (i:=3) cI) ?_;refine p1 (aQ (aC).2) ?_;refine p1 (aQ (aC).2) ?_;refine RV.done ?_;refine CV.region rfl (fun h=>nomatch h) ?_;refine p1 (aJ aC) ?_;refine p1 (aJ aC) ?_;refine xd rfl ((pE e (wR ((p.getD k 0/e).den:Int)) B (B+3) (by omega) (by omega)).mono (fun _ _ _ _ h=>h) (eQ o2)) Tryz.func70 (xb rfl rfl) hfr ?_;refine p1 (aQ (aC).2) ?_;refine RV.done ?_;refine CV.region rfl (fun h=>nomatch h) ?_;refine p1 (cP (c:=((k+1:Nat):Int)) (by rw[bV (by omega) (by omega)]; omega) rfl rfl bd rfl rfl) ?_;refine xm ?_;refine RV.done ?_;exact⟨⟨(k+1,e/wR ((p.getD k 0/e).den:Int)),hlt,o3⟩,aZ.mk ⟨aB _,aB _,aB _,aB _,aB _,aB _,trivial⟩ rfl rfl,by show p.length-(k+1)<p.length-k; omega⟩
 ·refine CV.exit ?_;refine CV.seq ?_;have hkp:k=p.length:=(by have:=of_decide_eq_false hc; omega)
  rw[hkp,List.drop_length,gM] at hs;obtain rfl:=Option.some.inj hs;refine CV.region rfl (fun h=>nomatch h) ?_;refine xm ?_;refine p1 (aJ aC) ?_;refine xd rfl ((aHh _ _ (by omega)).mono (fun _ _ _ _ h=>h) (eQ h1)) Tryz.func175 (xa rfl) hfr ?_;refine xd rfl ((tK p (1/e) B B (by omega) (by omega) hp).mono (fun _ _ _ _ h=>h) (eR h2)) Tryz.func80 (xb rfl rfl) hfr ?_;refine xn ?_;refine RV.done ?_;refine CV.ret ?_;exact aS rfl (.inr rfl) rfl cL
end
def jN (B:Nat) (p:List Rat):Option (List Rat):=(gM B p (aG p)).bind fun D=>if (aH [1/D] B&&aH (aM p (1/D)) B)=true then some (aM p (1/D)) else none
theorem aKj {B:Nat} {p R:List Rat} (h:jN B p=some R):∃ D,gM B p (aG p)=some D/\aH [1/D] B=true/\aH (aM p (1/D)) B=true/\R=aM p (1/D):=by
 unfold jN at h;obtain⟨D,h1,h2⟩:=Option.bind_eq_some_iff.1 h;split at h2
 ·rename_i h3;rw[Bool.and_eq_true] at h3;injection h2 with h2;exact⟨D,h1,h3.1,h3.2,h2.symm⟩
 ·cases h2
theorem aI3 {B:Nat} {p R:List Rat} (h:jN B p=some R):R.length<=p.length:=by
 obtain⟨D,_,_,_,rfl⟩:=aKj h;exact mF _ _
theorem aCa (p R:List Rat) (B:Nat) (hB:B<=300000) (hp:p.length<=1000000) (h:jN B p=some R):aD Tryz.prog 106 [PL p B] (.one (PL R B)):=by
 obtain⟨D,h1,h2,h3,rfl⟩:=aKj h;exact aPu p D B hB hp h1 h2 h3
def jQ (B:Nat):Nat->List Rat->List Rat->Option (List Rat)
 | 0,_,_=>none
 | n+1,p,q=>if 0<q.length then (kZ B q (p.length+2) p).bind (fun r=>(jN B r).bind fun s=>if s.length<q.length then jQ B n q s else none) else some p
theorem aTk {B n:Nat} {p q R:List Rat} (h:jQ B n p q=some R) (hl:0<q.length):∃ m r s,kZ B q (p.length+2) p=some r/\jN B r=some s/\s.length<q.length/\jQ B m q s=some R:=by
 cases n with
 | zero=>cases h
 | succ n =>
  rw[jQ,if_pos hl] at h;obtain⟨r,h1,h⟩:=Option.bind_eq_some_iff.1 h;obtain⟨s,h2,h⟩:=Option.bind_eq_some_iff.1 h;split at h
  ·rename_i h3; exact⟨n,r,s,h1,h2,h3,h⟩
  ·cases h
theorem aVx {B n:Nat} {p q R:List Rat} (h:jQ B n p q=some R) (hl:¬ 0<q.length):R=p:=by
 cases n with
 | zero=>cases h
 | succ n =>
  rw[jQ,if_neg hl] at h;injection h with h;exact h.symm
section
variable (p q pa qa R:List Rat) (B n:Nat) (hB:B<=300000) (hp:p.length<=1000000) (hq:q.length<=1000000) (h1:jN B p=some pa) (h2:jN B q=some qa) (h:jQ B n pa qa=some R) (hm:aH (aY R) B=true)
include hB hp hq h1 h2 h hm
theorem aWv:aD Tryz.prog 34 [PL p B,PL q B] (.one (PL (aY R) B)):=by
 have hpa:=aI3 h1;have hqa:=aI3 h2;refine aD.of (n:=19) Tryz.func34 rfl rfl rfl rfl rfl fun cx hfr=>?_;refine sr rfl ?_;refine xn ?_;refine RV.done (sr rfl ?_);refine xm ?_;refine xc (aCa p pa B hB hp h1) Tryz.func106 (xa rfl) hfr ?_;refine xm ?_;refine xc (aCa q qa B hB hq h2) Tryz.func106 (xa rfl) hfr ?_;refine xn ?_;refine xn ?_;refine RV.done ?_;refine CV.seq ?_;refine CV.block ?_;refine CV.loop (X:={s:Nat × List Rat × List Rat // jQ B s.1 s.2.1 s.2.2=some R/\s.2.1.length<=1000000/\s.2.2.length<=1000000}) (fun s=>[(.s 0,.av (.one (PL s.1.2.1 B))),(.s 1,.av (.one (PL s.1.2.2 B)))]) (fun s=>s.1.2.2.length) ⟨(n,pa,qa),h,by show pa.length<=_; omega,by show qa.length<=_; omega⟩ (aZ.mk ⟨aB _,aB _,trivial⟩ rfl rfl) (fun s=>?_);obtain⟨⟨n,r,s⟩,hs,hr,hs1⟩:=s;simp only at hs hr hs1 |-;refine CV.seq ?_;refine sr rfl ?_;refine xm ?_;refine p1 (bL aV bE) ?_;refine p1 (gC) ?_;refine RV.done ?_;refine CV.cond rfl (fun hc=>?_) (fun hc=>?_)
 ·have hlt:0<s.length:=(by have:=of_decide_eq_true hc; omega)
  obtain⟨m,r1,s1,o1,o2,o3,o4⟩:=aTk hs hlt;have hrl:=aKx o1;refine CV.skip ?_;refine CV.block ?_;refine CV.region rfl (fun h=>nomatch h) ?_;refine xm ?_;refine xm ?_;refine xm ?_;refine xc (aP7 r s r1 B _ hB hr hs1 o1) Tryz.func107 (xb rfl rfl) hfr ?_;refine xd rfl (aCa r1 s1 B hB (by omega) o2) Tryz.func106 (xa rfl) hfr ?_;refine xn ?_;refine xn ?_;refine RV.done ?_;exact⟨⟨(m,s,s1),o4,hs1,by show s1.length<=_; omega⟩,aZ.mk ⟨aB _,aB _,trivial⟩ rfl rfl,o3⟩
 ·refine CV.exit ?_;refine CV.seq ?_;have hX:=aVx hs (by have:=of_decide_eq_false hc; omega);subst hX;refine CV.region rfl (fun h=>nomatch h) ?_;refine xm ?_;refine xd rfl ((aJb R B (by omega) hr).mono (fun _ _ _ _ h=>h) (eR hm)) Tryz.func108 (xa rfl) hfr ?_;refine xn ?_;refine RV.done ?_;refine CV.ret ?_;exact aS rfl (.inr rfl) rfl cL
end
def nQ (B:Nat) (p q:List Rat):Option (List Rat):=(jN B p).bind fun pa=>(jN B q).bind fun qa=>(jQ B (p.length+q.length+3) pa qa).bind fun R=>if aH (aY R) B=true then some (aY R) else none
theorem aWt (p q G:List Rat) (B:Nat) (hB:B<=300000) (hp:p.length<=1000000) (hq:q.length<=1000000) (h:nQ B p q=some G):aD Tryz.prog 34 [PL p B,PL q B] (.one (PL G B)):=by
 unfold nQ at h;obtain⟨pa,h1,h⟩:=Option.bind_eq_some_iff.1 h;obtain⟨qa,h2,h⟩:=Option.bind_eq_some_iff.1 h;obtain⟨R,h3,h⟩:=Option.bind_eq_some_iff.1 h;split at h
 ·rename_i hm;injection h with h;subst h;exact aWv p q pa qa R B _ hB hp hq h1 h2 h3 hm
 ·cases h
section
variable (p G U R:List Rat) (B:Nat) (hB:B<=300000) (hp:p.length<=1000000) (h0:aH (bN p) B=true) (h1:nQ B p (bN p)=some G) (hG:G.length<=1000000) (h2:dK B p G=some (U,R)) (hU:U.length<=1000000) (hm:aH (aY U) B=true)
include hB hp h0 h1 h2 hG hU hm
theorem aUc:aD Tryz.prog 148 [PL p B] (.one (PL (aY U) B)):=by
 have hdl:(bN p).length<=p.length-1:=(by unfold bN; exact Nat.le_trans (mX _) (by rw[gT]; exact Nat.le_refl _))
 refine aD.of (n:=16) Tryz.func148 rfl rfl rfl rfl rfl fun cx hfr=>?_;refine sr rfl ?_;refine xn ?_;refine RV.done (sr rfl ?_);refine xm ?_;refine xm ?_;refine xm ?_;refine xd rfl ((aHl p B (by omega) hp).mono (fun _ _ _ _ h=>h) (eR h0)) Tryz.func150 (xa rfl) hfr ?_;refine xd rfl (aWt p (bN p) G B hB hp (by omega) h1) Tryz.func34 (xb rfl rfl) hfr ?_;refine xc (aAi p G B hB hp hG h2) Tryz.func203 (xb rfl rfl) hfr ?_;refine xm ?_;refine p1 (cO) ?_;refine p1 (cO) ?_;refine xn ?_;refine xn ?_;refine RV.done (sr rfl ?_);refine xm ?_;refine xd rfl ((aJb U B (by omega) hU).mono (fun _ _ _ _ h=>h) (eR hm)) Tryz.func108 (xa rfl) hfr ?_;refine xn ?_;refine RV.done ?_;refine CV.ret ?_;exact aS rfl (.inr rfl) rfl cL
end
def kI (B:Nat) (p:List Rat):Option (List Rat):=if aH (bN p) B=true then (nQ B p (bN p)).bind fun G=>(dK B p G).bind fun x=>if (decide (G.length<=1000000)&&(decide (x.1.length<=1000000)&&aH (aY x.1) B))=true then some (aY x.1) else none else none
theorem aDr (p F:List Rat) (B:Nat) (hB:B<=300000) (hp:p.length<=1000000) (h:kI B p=some F):aD Tryz.prog 148 [PL p B] (.one (PL F B)):=by
 unfold kI at h;split at h
 ·rename_i h0;obtain⟨G,h1,h⟩:=Option.bind_eq_some_iff.1 h;obtain⟨⟨U,R⟩,h2,h⟩:=Option.bind_eq_some_iff.1 h;split at h
  ·rename_i hm;rw[Bool.and_eq_true,Bool.and_eq_true] at hm;injection h with h;subst h;exact aUc p G U R B hB hp h0 h1 (of_decide_eq_true hm.1) h2 (of_decide_eq_true hm.2.1) hm.2.2
  ·cases h
 ·cases h
theorem aR8 (p:List Rat) (K:Nat) (hK:K<=1000000) (hp:p.length<=1000000):aD Tryz.prog 87 [PL p K] (.one (.v (.bool (decide (¬ (p≠[]/\aG p=0)))))):=by
 refine aD.of (n:=18) Tryz.func87 rfl rfl rfl rfl rfl fun cx hfr=>?_;refine sr rfl ?_;refine xn ?_;refine RV.done ?_;refine CV.seq ?_;refine sr rfl ?_;refine xm ?_;refine p1 (bL aV bE) ?_;refine xm ?_;refine RV.done ?_;refine CV.block ?_;refine CV.loop (X:={k:Nat // k<=p.length}) (fun k=>[(.s 7,.av (.one (.v (.int .i64 (k.1:Int))))),(.s 6,.av (.one (.v (.int .i64 (p.length:Int))))),(.s 5,.av (.one (PL p K))),(.s 0,.av (.one (PL p K)))]) (fun k=>p.length-k.1) ⟨0,Nat.zero_le _⟩ (aZ.mk ⟨aB _,aB _,aB _,aB _,trivial⟩ rfl rfl) (fun k=>?_);obtain⟨k,hk⟩:=k;simp only;refine sr rfl ?_;refine p1 (dP) ?_;refine RV.done ?_;refine CV.seq ?_;refine CV.cond rfl (fun hc=>?_) (fun hc=>?_)
 ·have hlt:k<p.length:=(by have:=of_decide_eq_true hc; omega)
  refine CV.skip ?_;refine CV.seq ?_;refine CV.block ?_;refine sr rfl ?_;refine p1 (cV (k:=some 4) (i:=k) (dN hlt) bE cH) ?_;refine p1 (bT aC) ?_;refine p2 (aU (i:=0) cI) ?_;refine p1 (aQ (aC).2) ?_;refine RV.done (sr rfl ?_);refine p1 (aJ aC) ?_;refine xd rfl (aR7 _ _ (by omega)) Tryz.func156 (xa rfl) hfr ?_;refine p1 (lN) ?_;refine RV.done ?_;refine CV.no rfl ?_;refine CV.skip ?_;refine CV.region rfl (fun h=>nomatch h) ?_;refine p1 (cP (c:=((k+1:Nat):Int)) (by rw[bV (by omega) (by omega)]; omega) rfl rfl bd rfl rfl) ?_;refine xm ?_;refine RV.done ?_;exact⟨⟨k+1,hlt⟩,aZ.mk ⟨aB _,aB _,aB _,aB _,trivial⟩ rfl rfl,by show p.length-(k+1)<p.length-k; omega⟩
 ·refine CV.exit ?_;refine sr rfl ?_;refine xm ?_;refine xc (aRm _ _ hp) Tryz.func157 (xa rfl) hfr ?_;refine p1 (lN) ?_;refine xn ?_;refine RV.done ?_;refine CV.ret ?_;exact aS rfl (.inr rfl) rfl (gB (by rw[decide_not]))
end Vc
end Go.Proofs.YtbaihklbefhgdaaGreat
