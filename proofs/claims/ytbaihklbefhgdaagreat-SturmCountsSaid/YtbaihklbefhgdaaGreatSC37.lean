/-
  
-/
import Derived.Test.YtbaihklbefhgdaaGreatSC36
import Derived.Test.YtbaihklbefhgdaaGreatSC18
import Derived.Test.YtbaihklbefhgdaaGreatSC34
import Derived.Test.YtbaihklbefhgdaaGreatSC14
import Derived.Test.YtbaihklbefhgdaaGreatSC27
import Derived.Test.YtbaihklbefhgdaaGreatSC11
set_option linter.unusedVariables false
set_option linter.unusedSimpArgs false
set_option linter.unusedSectionVars false
namespace Go.Proofs.YtbaihklbefhgdaaGreat
open Go.RowKit
open Go.Lib (hid)
open Dg Zn Tx
namespace Vc
section
variable (l d:List UInt8) (ng:Bool)
end
set_option linter.unusedSectionVars false
/-! Rows of numbers. -/
def kQ (k:IntKind) (zs:List Int):List (SA Dm):=zs.map fun z=>.v (.int k z)
abbrev ZI (k:IntKind) (zs:List Int):SA Dm:=.d (Dm.gen (cA none (kQ k zs)))
theorem wE {k:IntKind} (l:List Int):(kQ k l).length=l.length:=by simp[kQ]
theorem aNj {k:IntKind} {l:List Int} {i:Nat} (h:i<l.length):(kQ k l)[i]?=some (.v (.int k (l.getD i 0))):=by
 simp[kQ,List.getElem?_eq_getElem h,List.getD_eq_getElem?_getD]
theorem aLz {k:IntKind} {w:World}:∀ {l:List Int},dF w none (kQ k l) (l.map (Value.int k))
 | []=>rfl
 | b::l=>⟨[_],l.map (Value.int k),_,rfl,⟨rfl,rfl⟩,rfl,aLz⟩
/-! Functions that return a new row. -/
section
variable {D:Type} [bO D] {P:Program} {cx:Cx D} {n:Nat} {σ:St D} {o:Oper}
theorem aXs {d r:Nat} {ty e:TypeId} {z:Value} {sz:Nat} {k:Option Nat} {xs:List Operand} {ss:List (SA D)} (hu:P.underlying ty=some (.slice e)) (hsz:(P.info? e).map (fun i=>(i.size,i.zero))=some (sz,some z)) (hs:sz=k.getD 1) (hs0:Nat.blt 0 sz=true) (hsm:Nat.ble (ss.length*sz) 1000=true)
  (hk:∀ s∈ss,s.kind=some k) (hpt:ss.flatMap SA.ptrs=[]) (ho:o.op=.buildSlice ty ss.length ((xs.zipIdx 0).map fun p=>(p.2,p.1)).toArray) (hd:o.dst=some d) (hn:d<n) (hargs:dY σ xs ss) (hr:σ (.b r)=.no) (hkp:oW (σ KP)=true) (hrK:Nat.beq r 1000000=false) :
  aN P cx n σ o (xs.flatMap bH) [(.s d,.av (.one (.sl r ss.length))),(.b r,.row e k ss),(KP,.np (r::bR (σ KP)))]:=by
 intro σ' a w Q ⟨ρ,h⟩ h1 h2 K hK;have hKP:=h2 KP (by simp[keys]);have hrK1:r≠1000000:=fun e=>by subst e; cases hrK
 have hargs':dY σ' xs ss:=hargs.same h1;obtain⟨cs,hrun,hc⟩:=aE7 h hu hsz hs hs0 hsm hk ho hargs';unfold Oper.wp;rw[hrun,Oper.upon_value,hd];have hk:=h.kp (q:=.np (r::bR (σ KP))) (by rw[hKP]; exact hkp) rfl (fun _=>by simp) (fun i T k l _ hi q=>hi (by rw[hKP] at q; exact List.mem_cons_of_mem _ q)) (fun i T ch _ hi=>.inl fun q=>hi (by rw[hKP] at q; exact List.mem_cons_of_mem _ q));have hr0:σ' (.b r)=.no:=(h2 (.b r) (by simp[keys])).trans hr;have hKr:Key.b r≠KP:=by simpa[KP] using hrK1
 obtain⟨σ1,hσ1⟩:∃ σ1,σ1=upd σ' [(KP,.np (r::bR (σ KP)))]:=⟨_,rfl⟩
 rw[<- hσ1] at hk;have hk1:σ1 (.b r)=.no:=by rw[hσ1,mM hKr]; exact hr0
 have hkK:σ1 KP=.np (r::bR (σ KP)):=by rw[hσ1]; exact kM
 have hml:ss.length<=maxLen:=by
  have h0:0<sz:=by rwa[Nat.blt_eq] at hs0
  have h1:=Nat.le_of_ble_eq_true hsm;have h2:=Nat.le_mul_of_pos_right ss.length h0;unfold maxLen; omega
 have hc':bZ (fun _=>False) ρ w (dB k ss) cs\/True:=.inr trivial;have hL:∀ b,aT cx σ1 ρ b->aT cx σ' ρ b\/True:=fun _ _=>.inr trivial;have hnew:=hk.new (d:=d) (i:=r) (g:=w.heap.size) (c:=ss.length) (av:=.one (.sl r ss.length)) (x:=.row e k ss) (v:=.slice (some ⟨w.heap.size,0,none⟩) ss.length ss.length) ((Below.refl _ _).alloc (Nat.le_refl _) (.cells cs.toArray e)) hn hk1 hrK1 (by simp) (Nat.le_refl _) (fun ρ' hρ=>⟨some ⟨w.heap.size,0,none⟩,by rw[hρ],fun _=>by rw[hρ]⟩) (fun b hb=>by simpa[AV.ptrs,SA.ptrs] using hb)
  (fun T ch e=>by cases e) (fun T1 k1 l1 e=>by
   injection e with e1 e2 e3;subst e1; subst e2; subst e3;refine⟨⟨Nat.le_refl _,hml,hpt⟩,fun _=>⟨cs,[],by rw[List.append_nil]; exact uN (heap_alloc_new w _),?_,by rw[List.append_nil,hc.length],fun q=>absurd (by rw[hkK]; exact List.mem_cons_self) q⟩⟩;refine hc.go (oC fun b hb=>?_) (by rw[uE,hpt]; intro b hb; cases hb);rcases hb with hb | ⟨i,hi,rfl⟩
   ·exact .inl hb
   ·refine .inr ⟨i,?_,rfl⟩;rcases gH hi with ⟨T,ch,e⟩ | ⟨T,k,l,e,hcap⟩
    ·by_cases e2:i=1000000
     ·subst e2; exact absurd (hkK.symm.trans e) (by simp)
     ·rw[hσ1,mM (by simpa[KP] using e2)] at e; exact jJ e
    ·by_cases e2:i=1000000
     ·subst e2; exact absurd (hkK.symm.trans e) (by simp)
     ·rw[hσ1,mM (by simpa[KP] using e2)] at e; exact(jI e).2 hcap) (by intro b hb; cases hb) (fun _ _ _ _ _ q=>q)
 have e3:upd σ1 [(.s d,.av (.one (.sl r ss.length))),(.b r,.row e k ss)]=upd σ' [(.s d,.av (.one (.sl r ss.length))),(.b r,.row e k ss),(KP,.np (r::bR (σ KP)))]:=by
  rw[hσ1];rfl
 rw[e3] at hnew;exact hK _ _ hnew
end
end Vc
end Go.Proofs.YtbaihklbefhgdaaGreat

namespace Go.Proofs.YtbaihklbefhgdaaGreat
open Go.RowKit
open Go.Lib (hid)
open Dg Zn Tx
namespace Vc
set_option maxRecDepth 100000
/-! Whole. -/
theorem nC {m:Nat}:0<(aA m).length ↔ m≠0:=by
 rw[List.length_pos_iff,ne_eq,jF]
/-! Floor and Ceil of the reference. -/
theorem aX1 {f:Nat->Nat} {T:TypeId} {k:Option Nat} {s:SA Dm} {x:Dm} (h:∀ L ρ w v,s.is L ρ w v->(SA.d x).is L ρ w v):(XV.blk T [(k,s)]:XV Dm).leR f (.blk T [(k,.d x)]) :=
 ⟨rfl,fun L ρ w _ ⟨p,r,v,h1,h2,h3,h4⟩=>⟨p,r,v,h1,h2,h L ρ w v h3,h4⟩⟩
def dX:Value:=.agg #[.bool false,.slice none 0 0,.bool false,.slice none 0 0]
theorem aW0 {k:Nat}:∀ L ρ w v,(SA.v dX:SA Dm).is L ρ w v->(SA.d (Dm.rt 0 0 k)).is L ρ w v:=by
 intro L ρ w v h w' _;obtain rfl:v=dX:=h;have h0:(aA (0:Int).natAbs).length<=k:=by rw[show (0:Int).natAbs=0 from rfl,gA]; exact Nat.zero_le _
 exact⟨_,_,rfl,aL.nil (by decide),aL.nil (by decide),h0,h0⟩
theorem le_zero {f:Nat->Nat} {T:TypeId} {k:Option Nat} {j:Nat}:(XV.blk T [(k,.v dX)]:XV Dm).leR f (.blk T [(k,.d (Dm.rt 0 0 j))]):=aX1 aW0
/-! Lists of rational numbers. -/
theorem bY:Tryz.prog.underlying 23=some (.slice 30):=by kernel_rfl
theorem cH:(Tryz.prog.info? 30).map (·.size)=some 4:=by kernel_rfl
theorem gL:(Tryz.prog.info? 30).map (fun i=>(i.zero,i.size,i.bytes))=some (some dX,4,64):=by kernel_rfl
theorem mO:(Tryz.prog.info? 30).map (fun i=>(i.size,i.zero))=some (4,some dX):=by kernel_rfl
def iN (f:Nat->Rat) (K m:Nat):List (SA Dm):=(List.range m).map fun i=>RT (f i) K
theorem iF {f:Nat->Rat} {K m:Nat}:(iN f K m).length=m:=by simp[iN]
theorem aE0 {f:Nat->Rat} {K m i:Nat} (h:i<m):(iN f K m)[i]?=some (RT (f i) K):=by simp[iN,h]
theorem wM {f:Nat->Rat} {K m:Nat}:iN f K m++[RT (f m) K]=iN f K (m+1):=by simp[iN,List.range_succ]
abbrev RL (f:Nat->Rat) (K m:Nat):SA Dm:=.d (Dm.gen (cA (some 4) (iN f K m)))
def dE (f:Nat->Rat):Nat->Rat
 | 0=>0
 | n+1=>dE f n+f n
def lU (K:Nat):Nat->Nat
 | 0=>0
 | n+1=>3*(lU K n+K)+20
theorem aUt (f:Nat->Rat) (K m:Nat) (hm:m<=100000000) (hb:∀ n,n<=m->lU K n<=10000000) (hK:K<=10000000):aD Tryz.prog 172 [RL f K m] (.one (RT (dE f m) (lU K m))):=by
 refine aD.of (n:=17) Tryz.func172 rfl rfl rfl rfl rfl fun cx hfr=>?_;refine sr rfl ?_;refine p2 (aU (i:=0) cI) ?_;refine RV.done (sr rfl ?_);refine p2 (aU (i:=1) cI) ?_;refine RV.done ?_;refine CV.seq ?_;refine sr rfl ?_;refine xm ?_;refine p1 (bL iF bY) ?_;refine xm ?_;refine RV.done ?_;refine CV.block ?_;refine CV.loop (X:={i:Nat // i<=m}) (fun i=>[(.s 8,.av (.one (.v (.int .i64 (i.1:Int))))),(.s 7,.av (.one (.v (.int .i64 (m:Int))))),(.s 6,.av (.one (RL f K m))),(.s 3,.av (.one (.ptr 1 0))),(.s 2,.av (.one (.ptr 0 0))),(.b 1,.blk 30 [(some 4,RT (dE f i.1) (lU K i.1))]),(.b 0,.blk 30 [(some 4,.v dX)])]) (fun i=>m-i.1) ⟨0,Nat.zero_le _⟩ (aZ.mk ⟨aB _,aB _,aB _,aB _,aB _,le_zero,aB _,trivial⟩ rfl rfl) (fun i=>?_);obtain⟨i,hi⟩:=i;simp only;refine sr rfl ?_;refine p1 (dP) ?_;refine RV.done ?_;refine CV.seq ?_;refine CV.cond rfl (fun hc=>?_) (fun hc=>?_)
 ·refine CV.skip ?_;refine CV.seq ?_;refine CV.block ?_;refine sr rfl ?_;refine p1 (cV (k:=some 4) (i:=i) (aE0 (by simpa using hc)) bY cH rfl rfl bd rfl rfl (by decide)) ?_;refine p1 (bT aC) ?_;refine p2 (aU (i:=2) cI) ?_;refine p1 (aQ (aC).2) ?_;refine RV.done ?_;refine CV.region rfl (fun h=>nomatch h) ?_;refine p1 (aJ aC) ?_;refine p1 (aJ aC) ?_;refine xc (xE _ _ _ _ (hb i hi) hK) Tryz.func73 (xb rfl rfl) hfr ?_;refine p1 (aQ (aC).2) ?_;refine RV.done ?_;refine CV.region rfl (fun h=>nomatch h) ?_;refine p1 (cP (c:=((i+1:Nat):Int)) (by rw[bV (by omega) (by omega)]; omega) rfl rfl bd rfl rfl) ?_;refine xm ?_;refine RV.done ?_;have hlt:i<m:=(by simpa using hc)
  exact⟨⟨i+1,hlt⟩,aZ.mk ⟨aB _,aB _,aB _,aB _,aB _,⟨rfl,fun _ _ _ _ h=>h⟩,aB _,trivial⟩ rfl rfl,by show m-(i+1)<m-i; omega⟩
 ·refine CV.exit ?_;refine sr rfl ?_;refine p1 (aJ aC) ?_;refine p1 (aQ (aC).2) ?_;refine RV.done ?_;refine CV.ret ?_;obtain rfl:i=m:=(by have:¬ i<m:=(by simpa using hc); omega)
  exact aS rfl (.inr rfl) ⟨_,_,_,_,_,rfl,rfl,rfl,aC⟩ cL
def kG (f:Nat->Rat) (K m i:Nat):List (SA Dm):=(List.range m).map fun j=>if j<i then RT (f j) K else .v dX
theorem vX {f:Nat->Rat} {K m i:Nat}:(kG f K m i).length=m:=by simp[kG]
theorem aHv {f:Nat->Rat} {K m:Nat}:List.replicate m (SA.v dX:SA Dm)=kG f K m 0:=by
 apply List.ext_getElem
 ·simp[kG]
 ·intro i h1 h2;simp[kG]
theorem aI1 {f:Nat->Rat} {K m i:Nat}:(kG f K m i).set i (RT (f i) K)=kG f K m (i+1):=by
 apply List.ext_getElem
 ·simp[kG]
 ·intro j h1 h2;simp only[kG,List.getElem_set,List.getElem_map,List.getElem_range];by_cases e:i=j
  ·subst e; rw[if_pos rfl,if_pos (Nat.lt_succ_self i)]
  ·rw[if_neg e];by_cases h:j<i
   ·rw[if_pos h,if_pos (by omega)]
   ·rw[if_neg h,if_neg (by omega)]
theorem aI2 {f:Nat->Rat} {K m:Nat}:kG f K m m=iN f K m:=by
 unfold kG iN;exact List.map_congr_left fun i hi=>by rw[if_pos (List.mem_range.1 hi)]
theorem aWr (f g:Nat->Rat) (K m n:Nat) (hm:m<=1000000) (hn:n<=1000000) (hK:K<=1000000) (hb:∀ i,i<=min m n->lU (3*(K+K)+20) i<=10000000):aD Tryz.prog 105 [RL f K m,RL g K n] (.one (RT (dE (fun i=>f i*g i) (min m n)) (lU (3*(K+K)+20) (min m n)))):=by
 refine aD.of (n:=33) Tryz.func105 rfl rfl rfl rfl rfl fun cx hfr=>?_;refine sr rfl ?_;refine p2 (aU (i:=0) cI) ?_;refine RV.done (sr rfl ?_);refine xm ?_;refine p1 (bL iF bY) ?_;refine xm ?_;refine p1 (bL iF bY) ?_;refine p1 (aE5 (c:=((min m n:Nat):Int)) (by split<;>omega) rfl rfl bd rfl rfl) ?_;refine p2 (xI (r:=12) (Nat.le_refl _) (by omega) (by omega) bY gL rfl rfl rfl rfl bd rfl rfl rfl rfl rfl) ?_;refine xn ?_;refine RV.done ?_;refine CV.seq ?_;refine sr rfl ?_;refine xm ?_;refine p1 (mY bY) ?_;refine xm ?_;refine RV.done ?_;refine CV.block ?_;refine CV.loop (X:={i:Nat // i<=min m n}) (fun i=>[(.s 15,.av (.one (.v (.int .i64 (i.1:Int))))),(.s 14,.av (.one (.v (.int .i64 ((min m n:Nat):Int))))),(.s 0,.av (.one (RL f K m))),(.s 1,.av (.one (RL g K n))),(.s 5,.av (.one (.sl 12 (min m n)))),(.b 12,.row 30 (some 4) (kG (fun i=>f i*g i) (3*(K+K)+20) (min m n) i.1)),(.s 4,.av (.one (.ptr 0 0))),(.b 0,.blk 30 [(some 4,.v dX)])]) (fun i=>min m n-i.1) ⟨0,Nat.zero_le _⟩ (aZ.mk ⟨aB _,aB _,aB _,aB _,aB _,fC aHv,aB _,aB _,trivial⟩ rfl rfl) (fun i=>?_);obtain⟨i,hi⟩:=i;simp only;refine sr rfl ?_;refine p1 (dP) ?_;refine RV.done ?_;refine CV.seq ?_;refine CV.cond rfl (fun hc=>?_) (fun hc=>?_)
 ·refine CV.skip ?_;refine CV.seq ?_;refine CV.block ?_;refine sr rfl ?_;refine xm ?_;refine xn ?_;refine RV.done ?_;refine CV.region rfl (fun _=>by kernel_rfl) ?_;refine xm ?_;refine xm ?_;refine xm ?_;refine xm ?_;refine p1 (cV (k:=some 4) (i:=i) (aE0 (by have:i<min m n:=(by simpa using hc); omega)) bY cH rfl rfl bd rfl rfl (by decide)) ?_;refine p1 (bT aC) ?_;refine xm ?_;refine xm ?_;refine p1 (cV (k:=some 4) (i:=i) (aE0 (by have:i<min m n:=(by simpa using hc); omega)) bY cH rfl rfl bd rfl rfl (by decide)) ?_;refine p1 (bT aC) ?_;refine xd rfl (oG _ _ _ _ (by omega) (by omega)) Tryz.func62 (xb rfl rfl) hfr ?_;refine p1 (mZ (i:=i) (by simpa using hc) (by rw[vX]; exact Nat.le_refl _) bY cH rfl rfl bd rfl rfl rfl) ?_;refine p1 (tQ (i:=i) (by rw[vX]; simpa using hc) (by show 0<4; decide) cH (.inl rfl) rfl rfl rfl rfl rfl rfl rfl rfl rfl) ?_;refine bU (by kernel_rfl) ?_;refine CV.region rfl (fun h=>nomatch h) ?_;refine p1 (cP (c:=((i+1:Nat):Int)) (by rw[bV (by omega) (by omega)]; omega) rfl rfl bd rfl rfl) ?_;refine xm ?_;refine RV.done ?_;have hlt:i<min m n:=(by simpa using hc)
  exact⟨⟨i+1,hlt⟩,aZ.mk ⟨aB _,aB _,aB _,aB _,aB _,fC aI1,aB _,aB _,trivial⟩ rfl rfl,by show min m n-(i+1)<min m n-i; omega⟩
 ·refine CV.exit ?_;refine CV.seq ?_;have hi2:i=min m n:=(by have:¬ i<min m n:=(by simpa using hc); omega)
  subst hi2;rw[aI2];refine jZ (r:=12) (t:=5) (G:=Dm.gen (cA (some 4) (iN (fun i=>f i*g i) (3*(K+K)+20) (min m n)))) (cx.bw hfr) rfl rfl iF.symm rfl rfl (cS _ _) (iS _ _) ?_;refine CV.region rfl (fun h=>nomatch h) ?_;refine xm ?_;refine xd rfl (aUt _ _ _ (by omega) hb (by omega)) Tryz.func172 (xa rfl) hfr ?_;refine p1 (aQ (aC).2) ?_;refine RV.done ?_;refine CV.ret ?_;exact aS rfl (.inr rfl) ⟨_,_,_,_,_,rfl,rfl,rfl,aC⟩ cL
section
variable (l m:List Int) (c:Int) (hc1 : -9223372036854775808<=c) (hc2:c<=9223372036854775807)
include hc1 hc2
end
theorem aCk {w:World} {v:Value} {ds:List Nat} (h:Row .i64 w v (ds.map Int.ofNat)):aL w v ds:=by
 obtain⟨a,c,rfl,h2,h3,h4⟩:=h;rw[List.length_map] at h2 h4 |-;refine⟨a,c,rfl,h2,h3,fun hl=>?_⟩;obtain⟨b,off,h5,h6⟩:=h4 hl;refine⟨b,off,h5,fun i hi=>?_⟩;rw[h6 i hi];simp[List.getD_eq_getElem?_getD,hi]
section
variable {cx:Cx Dm} {n:Nat} {σ:St Dm} {o:Oper} {d t:Nat} {x y j:Operand}
end
/-! Valid. -/
/-! Take. -/
section
variable (p q:Int) (l m z:List Int) (b:Bool) (hp1 : -9223372036854775808<=p) (hp2:p<=9223372036854775807) (hq1 : -9223372036854775808<=q) (hq2:q<=9223372036854775807)
include hp1 hp2 hq1 hq2
end
end Vc
end Go.Proofs.YtbaihklbefhgdaaGreat

namespace Go.Proofs.YtbaihklbefhgdaaGreat
open Dg Zn
namespace Vc
structure bAx (a b c d q p:Int):Prop where
 hq:0<q
 hp:0<p
 lo:a*p<=q*b
 hi:q*d<=c*p
 min:∀ u v:Int,0<v->a*v<=u*b->u*d<=c*v->q<=u/\p<=v
end Vc
end Go.Proofs.YtbaihklbefhgdaaGreat

namespace Go.Proofs.YtbaihklbefhgdaaGreat
open Go.RowKit
open Go.Lib (hid)
open Dg Zn Tx
namespace Vc
set_option linter.unusedSectionVars false
section
variable {cx:Cx Dm} {n:Nat} {σ:St Dm} {o:Oper} {d:Nat} {x:Operand}
end
/-! Plain. -/
/-! The reference's least. -/
section
variable (x y:Rat) (K:Nat) (hK:K<=1000) (c:Int)
include hK
end
end Vc
end Go.Proofs.YtbaihklbefhgdaaGreat
