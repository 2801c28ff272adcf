/-
  
-/
import Derived.Test.YtjmbkipbmbnhjaaGreatSQ33
import Derived.Test.YtjmbkipbmbnhjaaGreatSQ32
import Derived.Test.YtjmbkipbmbnhjaaGreatSQ35
import Derived.Lib.ConvBytes
import Derived.Laws.IdiomStrings
set_option linter.unusedVariables false
set_option linter.unusedSimpArgs false
set_option linter.unusedSectionVars false
namespace Go.Proofs.YtjmbkipbmbnhjaaGreat
open Go.RowKit
open Go.Lib (hid)
open Dg Zn
namespace Vc
section
variable {P:Program} {cx:Cx Dm} {n:Nat} {σ:St Dm} {o:Oper} {d t:Nat} {x y j:Operand} {T T':TypeId}
/-! Texts. -/
theorem rZ {ts:Array TypeId} {k:IntKind} {a b c:Int} (hc:(if a<b then b else a)=c) (ho:o.op=.call ⟨.builtin .max,#[x,y],ts⟩:=by exact rfl) (hd:o.dst=some d:=by exact rfl) (hn:d<n:=by exact bd) (hx:opd σ x=.av (.one (.v (.int k a))):=by exact rfl) (hy:opd σ y=.av (.one (.v (.int k b))):=by exact rfl) :
  aS P cx n σ o (bF x++bF y) [(.s d,.av (.one (.v (.int k c))))]:=by
 refine eV hd hn rfl fun σ' ρ a w h hk=>⟨_,?_,rfl⟩
 have e1:=h.opd ((cQ fun q hq=>hk q (by simp[hq])).trans hx);have e2:=h.opd ((cQ fun q hq=>hk q (by simp[hq])).trans hy);have e1:a.eval x=_:=e1;have e2:a.eval y=_:=e2;simp only[execOp,ho,resolve,invoke,builtin,Sem.run_bind,Sem.run_pure,Result.andThen_ok];rw[show (#[x,y]:Array Operand).map a.eval=#[a.eval x,a.eval y] by simp,e1,e2];rw[run_max_int2,hc];rfl
theorem aVo {ts:Array TypeId} {k:IntKind} {a b c:Int} (hc:(if b<a then b else a)=c) (ho:o.op=.call ⟨.builtin .min,#[x,y],ts⟩) (hd:o.dst=some d) (hn:d<n) (hx:opd σ x=.av (.one (.v (.int k a)))) (hy:opd σ y=.av (.one (.v (.int k b)))) :
  aS P cx n σ o (bF x++bF y) [(.s d,.av (.one (.v (.int k c))))]:=by
 refine eV hd hn rfl fun σ' ρ a w h hk=>⟨_,?_,rfl⟩
 have e1:=h.opd ((cQ fun q hq=>hk q (by simp[hq])).trans hx);have e2:=h.opd ((cQ fun q hq=>hk q (by simp[hq])).trans hy);have e1:a.eval x=_:=e1;have e2:a.eval y=_:=e2;simp only[execOp,ho,resolve,invoke,builtin,Sem.run_bind,Sem.run_pure,Result.andThen_ok];rw[show (#[x,y]:Array Operand).map a.eval=#[a.eval x,a.eval y] by simp,e1,e2];rw[run_min_int2,hc];rfl
end
/-! Types of this program. -/
theorem lK:Tryz.prog.underlying 22=some (.slice 3):=by kernel_rfl
theorem aAq:(Tryz.prog.info? 3).map (fun i=>(i.size,i.zero))=some (1,some (.int .i64 0)):=by kernel_rfl
theorem sG:(Tryz.prog.info? 3).map (·.size)=some 1:=by kernel_rfl
end Vc
end Go.Proofs.YtjmbkipbmbnhjaaGreat

namespace Go.Proofs.YtjmbkipbmbnhjaaGreat
open Go.RowKit
open Dg Zn
namespace Vc
section
variable {D:Type} [bR D] {P:Program} {cx:Cx D} {n:Nat} {σ:St D} {o:Oper}
theorem aH8 {d r:Nat} {ty:TypeId} {z:Value} {k:Option Nat} (hz:(P.info? ty).map (·.zero)=some (some z)) (hk:(SA.v z:SA D).kind=some k) (ho:o.op=.alloc ty) (hd:o.dst=some d) (hn:d<n) (hr:σ (.b r)=.no) (hkp:oR (σ KP)=true) (hrK:Nat.beq r 1000000=false) :
  aS P cx n σ o [] [(.s d,.av (.one (.ptr r 0))),(.b r,.row ty k [.v z]),(KP,.np (r::bW (σ KP)))]:=by
 intro σ' a w Q ⟨ρ,h⟩ h1 h2 K hK;have hKP:=h2 KP (by simp[keys]);have hrK1:r≠1000000:=fun e=>by subst e; cases hrK
 obtain⟨cs,hcs⟩:=mB (L:=fun _=>False) (ρ:=ρ) (w:=w) hk (v:=z) rfl;have hzr:(zeroValue ty).run P w=.ok z w:=by
  cases hq:P.info? ty with
  | none=>simp[hq] at hz
  | some inf =>
   simp only[hq,Option.map_some,Option.some.injEq] at hz;simp[zeroValue,typeInfo,hq,hz]
 have hrun:(execOp a.eval o).run P w=.ok (.value (.pointer (some ⟨w.heap.size,0,none⟩))) (w.alloc (.cells cs.toArray ty)):=by
  rw[<- hcs.cells];simp only[execOp,ho,Sem.run_bind,Instr.alloc,hzr,newVar,newRow,run_newObj_alloc,Sem.run_pure,Result.andThen_ok]
 unfold Oper.wp;rw[hrun,Oper.upon_value,hd];have hk:=h.kp (q:=.np (r::bW (σ KP))) (by rw[hKP]; exact hkp) rfl (fun _=>by simp) (fun i T k l _ hi q=>hi (by rw[hKP] at q; exact List.mem_cons_of_mem _ q)) (fun i T ch _ hi=>.inl fun q=>hi (by rw[hKP] at q; exact List.mem_cons_of_mem _ q));have hr0:σ' (.b r)=.no:=(h2 (.b r) (by simp[keys])).trans hr;have hKr:Key.b r≠KP:=by simpa[KP] using hrK1
 obtain⟨σ1,hσ1⟩:∃ σ1,σ1=upd σ' [(KP,.np (r::bW (σ KP)))]:=⟨_,rfl⟩
 rw[<- hσ1] at hk;have hk1:σ1 (.b r)=.no:=by rw[hσ1,mE hKr]; exact hr0
 have hkK:σ1 KP=.np (r::bW (σ KP)):=by rw[hσ1]; exact jY
 have hnew:=hk.new (d:=d) (i:=r) (g:=w.heap.size) (c:=1) (av:=.one (.ptr r 0)) (x:=.row ty k [.v z]) (v:=.pointer (some ⟨w.heap.size,0,none⟩)) ((Below.refl _ _).alloc (Nat.le_refl _) (.cells cs.toArray ty)) hn hk1 hrK1 (by simp) (Nat.le_refl _) (fun ρ' hρ=>by show _=_; rw[hρ]) (fun b hb=>by simpa[AV.ptrs,SA.ptrs] using hb)
  (fun T ch e=>by cases e) (fun T1 k1 l1 e=>by
   injection e with e1 e2 e3;subst e1; subst e2; subst e3;refine⟨⟨Nat.le_refl _,by decide,rfl⟩,fun _=>⟨cs,[],by rw[List.append_nil]; exact uI (heap_alloc_new w _),⟨cs,[],z,by simp,hcs,rfl,rfl⟩,by rw[List.append_nil,hcs.length,Nat.one_mul],fun q=>absurd (by rw[hkK]; exact List.mem_cons_self) q⟩⟩) (by intro b hb; cases hb) (fun _ _ _ _ _ q=>q)
 have e3:upd σ1 [(.s d,.av (.one (.ptr r 0))),(.b r,.row ty k [.v z])]=upd σ' [(.s d,.av (.one (.ptr r 0))),(.b r,.row ty k [.v z]),(KP,.np (r::bW (σ KP)))]:=by
  rw[hσ1];rfl
 rw[e3] at hnew;exact hK _ _ hnew
end
section
variable {P:Program} {cx:Cx Dm} {n:Nat}
theorem aHl {c:Code} {K:Exit->Sg Dm->Prop} {r t:Nat} {T:TypeId} {k:Option Nat} {s:SA Dm} {l0:Sg Dm} (hB:∀ b,¬ cx.Bw b) (hr:aH .no l0 (.b r)=.row T k [s]) (ht:aH .no l0 (.s t)=.av (.one (.ptr r 0))) (ht':Nat.blt t n=true) (hrK:Nat.beq r 1000000=false)
  (h:CV P cx n c ((.s t,.av (.one (.d (Dm.gen (pG k s)))))::(.b r,.dead)::l0) K):CV P cx n c l0 K:=by
 have ht'':t<n:=by rwa[Nat.blt_eq] at ht'
 refine⟨fun a w ⟨ρ,hC⟩=>h.run a w ?_⟩;have hv:∀ w'',Agree (aY cx (upd (aH .no l0) [(.s t,.av (.one (.d (Dm.gen (pG k s))))),(.b r,.dead)]) ρ) w w''->bR.dat (Dm.gen (pG k s)) w'' (a.tmps.getD t undef):=by
  intro w'' hag;have e1:a.tmps.getD t undef=.pointer (some ⟨(ρ r).1,0,none⟩):=hC.slt t _ ht;have hc:0<(ρ r).2:=by have:=(hC.row r T k [s] hr).1.1; simp only[List.length_cons,List.length_nil] at this; omega
  obtain⟨cs,sp,q1,q2⟩:=hC.stays hr hB hag hc;obtain⟨p,r',v,e2,e3,e4,e5⟩:=q2;have e6:r'=[]:=e5;rw[e1];refine⟨(ρ r).1,0,v,rfl,p,e3,e4,fun j u hj=>?_⟩;rw[q1.cell,Nat.zero_add,e2,e6,List.append_nil,List.getElem?_append_left (List.getElem?_eq_some_iff.1 hj).1];exact hj
 have:=hC.froze (d:=t) (G:=Dm.gen (pG k s)) hr ht'' (fun e=>by subst e; cases hrK) (Below.refl _ _) hv;have e:a.put (some t) (a.tmps.getD t undef)=a:=by
  cases a with
  | mk tmps defers =>
   simp only[Act.put];congr 1;apply Array.ext (by simp);intro i h1 h2;rw[Array.getElem_setIfInBounds];split
   ·rename_i h3; subst h3; rw[Array.getD_eq_getD_getElem?,Array.getElem?_eq_getElem h2]; rfl
   ·rfl
 rw[e,fU] at this;exact⟨ρ,this⟩
end
theorem aSz:(Tryz.prog.info? 3).map (·.zero)=some (some (.int .i64 0)):=by kernel_rfl
end Vc
end Go.Proofs.YtjmbkipbmbnhjaaGreat

namespace Go.Proofs.YtjmbkipbmbnhjaaGreat
open Go.RowKit
open Go.Lib (hid)
open Dg Zn
namespace Vc
set_option linter.unusedSectionVars false
section
variable {D:Type} [bR D]
def SA.rat (ρ:aX) (w:World):SA D->Value->Prop
 | .v x,y=>y=x
 | .d x,y=>bR.dat x w y
 | .ptr b o,y=>y=.pointer (some ⟨(ρ b).1,o,none⟩)
 | .sl b n,y=>∃ a,y=.slice a n (ρ b).2/\(0<(ρ b).2->a=some ⟨(ρ b).1,0,none⟩)
 | .ar b n,y=>y=.slice (some ⟨(ρ b).1,0,none⟩) n n
 | .lk x,y=>x.is ρ w y
theorem aSn {L:Nat->Prop} {ρ:aX} {w w':World} {s:SA D} {y:Value} (h:s.is L ρ w y) (hw:Agree L w w'):s.rat ρ w' y:=by
 cases s with
 | v x=>exact h
 | d x=>exact h w' hw
 | ptr b o=>exact h
 | sl b n=>exact h
 | ar b n=>exact h
 | lk x=>exact h w' hw
theorem aSm {L:Nat->Prop} {ρ:aX} {w:World} {s:SA D} {y:Value} (h:∀ w',Agree L w w'->s.rat ρ w' y):s.is L ρ w y:=by
 cases s with
 | v x=>exact h w (Agree.refl _ _)
 | d x=>exact h
 | ptr b o=>exact h w (Agree.refl _ _)
 | sl b n=>exact h w (Agree.refl _ _)
 | ar b n=>exact h w (Agree.refl _ _)
 | lk x=>exact h
theorem aPi {ρ ρ':aX} {w:World} {s:SA D} {y:Value} (h:s.rat ρ w y) (hr:∀ b∈s.ptrs,ρ' b=ρ b):s.rat ρ' w y:=by
 cases s with
 | v x=>exact h
 | d x=>exact h
 | ptr b o=>show y=_; rw[hr b (by simp[SA.ptrs])]; exact h
 | sl b n=>show ∃ a,_; rw[hr b (by simp[SA.ptrs])]; exact h
 | ar b n=>show y=_; rw[hr b (by simp[SA.ptrs])]; exact h
 | lk x=>exact x.cong ρ ρ' w y hr h
def qT (ρ:aX) (w:World):List (SA D)->List Value->Prop
 | [],[]=>True
 | s::l,v::m=>s.rat ρ w v/\qT ρ w l m
 | _,_=>False
theorem qT.cong {ρ ρ':aX} {w:World}:∀ {l:List (SA D)} {m:List Value},qT ρ w l m->(∀ b∈gC l,ρ' b=ρ b)->qT ρ' w l m
 | [],[],_,_=>trivial
 | s::l,v::m,h,hr=>⟨aPi h.1 fun b hb=>hr b (by simp only[gC,List.flatMap_cons,List.mem_append]; exact .inl hb),qT.cong h.2 fun b hb=>hr b (by simp only[gC,List.flatMap_cons,List.mem_append]; exact .inr hb)⟩
theorem aG8 {L:Nat->Prop} {ρ:aX} {w w':World}:∀ {l:List (SA D)} {m:List Value},dN L ρ w l m->Agree L w w'->qT ρ w' l m
 | [],[],_,_=>trivial
 | _::_,_::_,h,hw=>⟨aSn h.1 hw,aG8 h.2 hw⟩
theorem aHi {L:Nat->Prop} {ρ:aX} {w:World}:∀ {l:List (SA D)} {m:List Value},(∀ w',Agree L w w'->qT ρ w' l m)->dN L ρ w l m
 | [],[],_=>trivial
 | [],_::_,h=>h w (Agree.refl _ _)
 | _::_,[],h=>h w (Agree.refl _ _)
 | s::l,v::m,h=>⟨aSm fun w' hw=>(h w' hw).1,aHi fun w' hw=>(h w' hw).2⟩
theorem aId {L:Nat->Prop} {ρ:aX} {w:World}:∀ {ss ss':List (SA D)} {vs vs':List Value},dN L ρ w ss vs->dN L ρ w ss' vs'->dN L ρ w (ss++ss') (vs++vs')
 | [],_,[],_,_,h=>h
 | _::_,_,_::_,_,h,h'=>⟨h.1,aId h.2 h'⟩
def fnR (f:FuncId) (caps:List (SA D)) (hne:gC caps≠[]:=by exact List.cons_ne_nil _ _):RG where
 is:=fun ρ w y=>∃ vs:List Value,y=.func (.func f) #[] vs.toArray/\qT ρ w caps vs
 pts:=gC caps
 ne:=hne
 cong:=fun _ _ _ _ h ⟨vs,e,k⟩=>⟨vs,e,k.cong h⟩
 cell:=true
 one:=fun _ _ _ _ ⟨_,e,_⟩=>by subst e; exact⟨rfl,rfl⟩
def aNp (ks:List Nat) (ρ0:aX) (hne:ks≠[]:=by exact List.cons_ne_nil _ _):RG where
 is:=fun ρ _ y=>y=undef/\∀ b∈ks,ρ b=ρ0 b
 pts:=ks
 ne:=hne
 cong:=fun _ _ _ _ h ⟨e,k⟩=>⟨e,fun b hb=>(h b hb).trans (k b hb)⟩
 cell:=false
 one:=fun h=>nomatch h
variable {P:Program} {cx:Cx D} {n:Nat} {σ:St D} {o:Oper} {d t:Nat}
def vA (σ:St D):List Operand->List (SA D)->Prop
 | [],[]=>True
 | x::xs,s::ss=>opd σ x=.av (.one s)/\vA σ xs ss
 | _,_=>False
theorem vA.is {σ':St D} {ρ:aX} {a:Act} {w:World} (h:Conc cx n ρ σ' a w):∀ {xs:List Operand} {ss:List (SA D)},vA σ xs ss->(∀ k∈xs.flatMap bF,σ' k=σ k)->dN (aY cx σ' ρ) ρ w ss (xs.map a.eval)/\∀ b∈gC ss,σ' (.b b)≠.no
 | [],[],_,_=>⟨trivial,fun b hb=>by cases hb⟩
 | x::xs,s::ss,⟨h1,h3⟩,hk=>by
  have hx:=(cQ fun k hk'=>hk k (by simp only[List.flatMap_cons,List.mem_append]; exact .inl hk')).trans h1;have ih:=vA.is h h3 fun k hk'=>hk k (by simp only[List.flatMap_cons,List.mem_append]; exact .inr hk');refine⟨⟨h.opd hx,ih.1⟩,fun b hb=>?_⟩;simp only[gC,List.flatMap_cons,List.mem_append] at hb;rcases hb with hb | hb
  ·exact h.opd_own hx b hb
  ·exact ih.2 b hb
theorem aTp {f:FuncId} {caps:List Operand} {ss:List (SA D)} {hne:gC ss≠[]} (ho:o.op=.makeFunc (.func f) #[] caps.toArray) (hd:o.dst=some d) (hn:d<n) (hargs:vA σ caps ss):aS P cx n σ o (caps.flatMap bF) [(.s d,.av (.one (.lk (fnR f ss hne))))]:=by
 intro σ' a w Q ⟨ρ,h⟩ h1 _ K hK;obtain⟨hall,hown⟩:=hargs.is h h1;have hr:(execOp a.eval o).run P w=.ok (.value (.func (.func f) #[] (caps.map a.eval).toArray)) w:=by simp[execOp,ho,Instr.makeFunc]
 unfold Oper.wp;rw[hr,Oper.upon_value,hd];exact hK _ _ ⟨ρ,h.put (Below.refl _ _) hn (fun w' hag=>⟨_,rfl,aG8 hall hag⟩) hown⟩
theorem aH4 {i:Nat} {ty T:TypeId} {y:Operand} {k:Option Nat} {s s0:SA D} (ho:o.op=.store ty (.tmp t) y) (hd:o.dst=none) (ht:σ (.s t)=.av (.one (.ptr i 0))) (hb:σ (.b i)=.blk T [(k,s0)])
  (hy:opd σ y=.av (.one s)) (hk:s.kind=some k) (hsz:(P.info? ty).map (·.size)=some (k.getD 1)) (hp:s.plain=true) (hiK:Nat.beq i 1000000=false) :
  aS P cx n σ o (.s t::.b i::bF y) [(.b i,.blk T [(k,s)])]:=by
 intro σ' a w Q ⟨ρ,h⟩ h1 _ K hK;have ht':=(h1 (.s t) (by simp)).trans ht;have hb':=(h1 (.b i) (by simp)).trans hb;have hy':=(cQ (σ':=σ') (x:=y) fun q hq=>h1 q (by simp[hq])).trans hy;obtain⟨cs,hcs,hcc⟩:=h.blk i T _ hb';obtain⟨pre,p,post,v,rfl,hpre,k3,k4,k5,k6⟩:=hcc.at (o:=0) (c:=(k,s0)) rfl;obtain rfl:=List.eq_nil_of_length_eq_zero hpre;have hs:=h.opd hy';obtain⟨p',hp'⟩:=mB hk hs;have hlen:p'.length=p.length:=by rw[hp'.length,k3.length]
 have hev:a.eval (.tmp t)=.pointer (some ⟨(ρ i).1,0,none⟩):=h.slt t _ ht';have hr:(execOp a.eval o).run P w=.ok .skip (w.setCells (ρ i).1 0 p'):=by
  have hst:=run_storeCells_cells (P:=P) (ρ i).1 0 p' 0 w (fun j hj=>by
    have:=sR (pre:=[]) hcs j p[j] (List.getElem?_eq_getElem (by omega));simp only[List.length_nil,Nat.zero_add] at this;rw[Nat.add_zero,Nat.zero_add,this]; rfl) (fun j hj=>by
    simp[World.frozen?,hcs]) hp'.one
  rw[Nat.add_zero] at hst;cases hq:P.info? ty with
  | none=>simp[hq] at hsz
  | some inf =>
   have e1:inf.size=k.getD 1:=by simpa[hq] using hsz
   have e2:(a.eval y).cells.size=inf.size:=by rw[hp'.cells,e1,<- hp'.length]; simp
   simp[execOp,ho,hev,Instr.storeAt,Instr.sureAddr,storeVar,sizeOf,typeInfo,hq,hp'.cells,hst];rw[show p'.length=inf.size by rw[e1,hp'.length]]
 unfold Oper.wp;rw[hr,Oper.upon_skip,hd];refine hK _ _ ⟨ρ,h.sto (iV hb') (by simp) (iV jY) (fun e=>by subst e; cases hiK) (os_setCells ..) (nM ..) (nO ..) (kY ..) (fun j hj=>lX _ _ _ _ j hj) ?_ (fun T k l e=>by cases e) ?_⟩
 ·intro T1 c1 e;injection e with e1 e2;subst e1; subst e2;have:=oT (ρ i).1 T p' p [] post w hlen hcs;exact⟨by simp[gN,hp],_,this,k6 (k,s) _ p' rfl hp' hs⟩
 ·intro b hb2;have hb3:b∈s.ptrs:=by simpa[XV.ptrs,jS] using hb2
  exact h.opd_own hy' b hb3
end
end Vc
end Go.Proofs.YtjmbkipbmbnhjaaGreat

namespace Go.Proofs.YtjmbkipbmbnhjaaGreat
open Go.RowKit
open Go.Lib (hid)
open Dg Zn
namespace Vc
set_option linter.unusedSectionVars false
section
variable {D:Type} [bR D]
def dO (L:Nat->Prop) (ρ:aX) (w:World) (pl:Bool):Sg D->Prop
 | []=>True
 | (.b i,.blk T ch)::r=>((pl=true->gN ch=true)/\∃ cs:List Value,w.heap[(ρ i).1]?=some (.cells cs.toArray T (0,0))/\cE L ρ w ch cs)/\dO L ρ w pl r
 | (.b i,.row T k l)::r=>qS L ρ w (pl=true) i T k l/\dO L ρ w pl r
 | (.b _,.dead)::r=>dO L ρ w pl r
 | _::_=>False
def bK:Sg D->List Nat
 | []=>[]
 | (.b i,_)::r=>i::bK r
 | _::r=>bK r
theorem mL {i:Nat}:∀ {bl:Sg D},i∈bK bl ↔ .b i∈keys bl
 | []=>by simp[bK,keys]
 | (.b j,x)::r=>by
  have ih:=mL (i:=i) (bl:=r);simp only[bK,List.mem_cons,ih];simp[keys]
 | (.s t,x)::r=>by
  have ih:=mL (i:=i) (bl:=r);simp only[bK,ih];simp[keys]
theorem tN {bl:Sg D} {k:Key} (h:k ∉ keys bl):aH .no bl k=.no:=by
 induction bl with
 | nil=>rfl
 | cons p r ih =>
  obtain⟨q,x⟩:=p;simp only[keys,List.map_cons,List.mem_cons,not_or] at h;show (bif Key.beq q k then x else aH .no r k)=_;rw[gR (fun e=>h.1 e.symm)];exact ih h.2
theorem dO.no {L:Nat->Prop} {ρ:aX} {w:World} {pl:Bool} {i:Nat}:∀ {bl:Sg D},dO L ρ w pl bl->i∈bK bl->aH .no bl (.b i)≠.no
 | (.b j,x)::r,h,hi=>by
  by_cases e:j=i
  ·subst e;show (bif Key.beq (.b j) (.b j) then x else _)≠_;rw[gQ];cases x<;>first | exact h.elim | exact fun q=>by cases q
  ·have hr:dO L ρ w pl r:=by cases x<;>first | exact h.elim | exact h.2 | exact h
   show (bif Key.beq (.b j) (.b i) then x else _)≠_;rw[gR (by simpa using e)];refine dO.no hr ?_;rcases List.mem_cons.1 hi with q | q
   ·exact absurd q.symm e
   ·exact q
 | (.s _,x)::r,h,_=>by cases x<;>exact h.elim
theorem dO.blk {L:Nat->Prop} {ρ:aX} {w:World} {pl:Bool} {i:Nat} {T:TypeId} {ch:List (Ch D)}:∀ {bl:Sg D},dO L ρ w pl bl->aH .no bl (.b i)=.blk T ch->(pl=true->gN ch=true)/\∃ cs:List Value,w.heap[(ρ i).1]?=some (.cells cs.toArray T (0,0))/\cE L ρ w ch cs
 | (.b j,x)::r,h,hi=>by
  by_cases e:j=i
  ·subst e;have hi:(bif Key.beq (.b j) (.b j) then x else _)=_:=hi;rw[gQ] at hi;have hi:x=_:=hi;subst hi;exact h.1
  ·have hr:dO L ρ w pl r:=by cases x<;>first | exact h.elim | exact h.2 | exact h
   have hi:(bif Key.beq (.b j) (.b i) then x else _)=_:=hi;rw[gR (by simpa using e)] at hi;exact dO.blk hr hi
 | (.s _,x)::r,h,_=>by cases x<;>exact h.elim
theorem dO.row {L:Nat->Prop} {ρ:aX} {w:World} {pl:Bool} {i:Nat} {T:TypeId} {k:Option Nat} {l:List (SA D)}:∀ {bl:Sg D},dO L ρ w pl bl->aH .no bl (.b i)=.row T k l->qS L ρ w (pl=true) i T k l
 | (.b j,x)::r,h,hi=>by
  by_cases e:j=i
  ·subst e;have hi:(bif Key.beq (.b j) (.b j) then x else _)=_:=hi;rw[gQ] at hi;have hi:x=_:=hi;subst hi;exact h.1
  ·have hr:dO L ρ w pl r:=by cases x<;>first | exact h.elim | exact h.2 | exact h
   have hi:(bif Key.beq (.b j) (.b i) then x else _)=_:=hi;rw[gR (by simpa using e)] at hi;exact dO.row hr hi
 | (.s _,x)::r,h,_=>by cases x<;>exact h.elim
theorem jP {bl:Sg D} {ρ:aX} {i:Nat} (h:live (aH .no bl) ρ i):i∈bK bl:=by
 rw[mL];exact Classical.byContradiction fun hn=>wV h (tN hn)
def aFx (run:Array Value->World->(Ending->World->Prop)->Prop) (args:List (SA D)) (bl:Sg D) (r:AV D) (bl':Sg D) (nw:List Nat) (pl:Bool) (L:Nat->Prop) (ρ:aX) (w:World) (vs:List Value):Prop :=
 (∀ b,L b->b<w.heap.size)->(∀ w',Kept w.heap.size (fun b=>∃ i,live (aH .no bl) ρ i/\(ρ i).1=b) w w'->bR.W D w') ->
  dN L ρ w args vs->dO L ρ w pl bl->(∀ i,live (aH .no bl) ρ i->L (ρ i).1)->(∀ i j,live (aH .no bl) ρ i->live (aH .no bl) ρ j->(ρ i).1=(ρ j).1->i=j) ->
  run vs.toArray w fun e w'=>∃ v ρ',e=.returned v/\(∀ i,i ∉ nw->ρ' i=ρ i)/\Kept w.heap.size (fun b=>∃ i,live (aH .no bl) ρ i/\(ρ i).1=b) w w' /\
   r.is (fun b=>L b\/∃ i,live (aH .no bl') ρ' i/\(ρ' i).1=b) ρ' w' v/\dO (fun b=>L b\/∃ i,live (aH .no bl') ρ' i/\(ρ' i).1=b) ρ' w' pl bl' /\
   (∀ i,live (aH .no bl') ρ' i->w.heap.size<=(ρ' i).1\/∃ j,live (aH .no bl) ρ j/\(ρ j).1=(ρ' i).1)/\(∀ i j,live (aH .no bl') ρ' i->live (aH .no bl') ρ' j->(ρ' i).1=(ρ' j).1->i=j)
def aBg (P:Program) (f:FuncId) (args:List (SA D)) (bl:Sg D) (r:AV D) (bl':Sg D) (nw:List Nat) (pl:Bool) (L:Nat->Prop) (ρ:aX) (w:World) (vs:List Value):Prop :=
 aFx (Calls P f) args bl r bl' nw pl L ρ w vs
def yD (P:Program) (f:FuncId) (args:List (SA D)) (bl:Sg D) (r:AV D) (bl':Sg D) (nw:List Nat) (pl:Bool:=true):Prop :=
 ∀ (L:Nat->Prop) (ρ:aX) (w:World) (vs:List Value),gH L w->aBg P f args bl r bl' nw pl L ρ w vs
variable {P:Program} {cx:Cx D} {n:Nat} {σ:St D} {o:Oper} {d t:Nat}
def kD (σ:St D):Sg D->Prop
 | []=>True
 | (k,x)::r=>σ k=x/\kD σ r
theorem kD.look {i:Nat}:∀ {bl:Sg D},kD σ bl->i∈bK bl->σ (.b i)=aH .no bl (.b i)
 | (.b j,x)::r,h,hi=>by
  by_cases e:j=i
  ·subst e;show _=(bif Key.beq (.b j) (.b j) then x else _);rw[gQ];exact h.1
  ·show _=(bif Key.beq (.b j) (.b i) then x else _);rw[gR (by simpa using e)];refine kD.look h.2 ?_;rcases List.mem_cons.1 hi with q | q
   ·exact absurd q.symm e
   ·exact q
 | (.s _,x)::r,h,hi=>kD.look (bl:=r) h.2 hi
theorem kD.same {σ':St D}:∀ {bl:Sg D},kD σ bl->(∀ k∈keys bl,σ' k=σ k)->kD σ' bl
 | [],_,_=>trivial
 | (k,x)::r,h,hk=>⟨(hk k (by simp[keys])).trans h.1,kD.same h.2 fun q hq=>hk q (by simp only[keys,List.map_cons,List.mem_cons]; exact .inr hq)⟩
def lR (σ:St D):List Nat->Prop
 | []=>True
 | i::r=>σ (.b i)=.no/\lR σ r
theorem lR.at {i:Nat}:∀ {nw:List Nat},lR σ nw->i∈nw->σ (.b i)=.no
 | j::r,h,hi=>by
  rcases List.mem_cons.1 hi with q | q
  ·subst q; exact h.1
  ·exact lR.at h.2 q
def kE (bl:Sg D) (r:AV D) (bl':Sg D) (nw:List Nat):Bool :=
 ((bK bl).all fun i=>fG i (bK bl'))&&((bK bl').all fun i=>(fG i (bK bl)||fG i nw) && !Nat.beq i 1000000)&&(nw.all fun i=>fG i (bK bl'))&&(bl'.all fun p=>p.2.ptrs.all fun b=>fG b (bK bl'))&&(r.ptrs.all fun b=>fG b (bK bl'))
theorem aC1 {bl:Sg D} {ks:List Nat} (h:(bl.all fun p=>p.2.ptrs.all fun b=>fG b ks)=true) {k:Key} {b:Nat} (hb:b∈(aH .no bl k).ptrs):b∈ks:=by
 by_cases e:aH .no bl k=.no
 ·rw[e] at hb; cases hb
 ·have:=List.all_eq_true.1 (List.all_eq_true.1 h _ (lD rfl e)) b hb;exact eM.1 this
theorem noK (σ:St D) (bl':Sg D) (i:Nat) {x:XV D} (hi:i∈bK bl'):upd σ ((.s d,x)::bl') (.b i)=aH .no bl' (.b i):=by
 show (bif Key.beq (.s d) (.b i) then x else upd σ bl' (.b i))=_;rw[gR (by simp),cond_false];exact(upd_same (σ:=σ) (τ:=fun _=>.no) (mL.1 hi)).trans (by
  have:=fU (X:=XV D) .no [] bl';rw[List.append_nil] at this;exact congrFun this _)
theorem aYb (σ:St D) (bl':Sg D) (i:Nat) {x:XV D} (hi:i ∉ bK bl'):upd σ ((.s d,x)::bl') (.b i)=σ (.b i) :=
 lB (by rw[mL] at hi; simpa[keys] using hi)
theorem aB6 {Goal:Prop} {run:Array Value->World->(Ending->World->Prop)->Prop} {pl:Bool} {ρ:aX} {a:Act} {w:World} {sas:List (SA D)} {vs:List Value} {bl bl':Sg D} {nw:List Nat} {r:AV D} {K:Act->World->Prop} (h:Conc cx n ρ σ a w) (hcon:aFx run sas bl r bl' nw pl (aY cx σ ρ) ρ w vs)
  (hwf:∀ w',Kept cx.w0.heap.size cx.Bw cx.w0 w'->bR.W D w') (hrun:∀ R:Ending->World->Prop,run vs.toArray w R->(∀ e w',R e w'->∃ v,e=.returned v/\K (a.put (some d) v) w')->Goal) (hall:dN (aY cx σ ρ) ρ w sas vs) (hn:d<n) (hbl:kD σ bl) (hnw:lR σ nw)
  (hkE:kE bl r bl' nw=true) (hblk:∀ k∈keys bl,∃ i,k=.b i) (hpl:(pl=true->∀ i∈bK bl,i ∉ bW (σ KP))/\(pl=false->∀ i∈bK bl',i∈bW (σ KP))) (hb':∀ k∈keys bl',∃ i,k=.b i) (hno:∀ p∈bl,(∃ T ch,p.2=.blk T ch)\/(∃ T k l,p.2=.row T k l)\/p.2=.dead)
  (hK:∀ a' w',CC cx n (upd σ ((.s d,.av r)::bl')) a' w'->K a' w'):Goal:=by
 simp only[kE,Bool.and_eq_true] at hkE;obtain⟨⟨⟨⟨c1,c2⟩,c3⟩,c4⟩,c5⟩:=hkE;have s1:∀ i,i∈bK bl->i∈bK bl':=fun i hi=>eM.1 (List.all_eq_true.1 c1 i hi);have s2:∀ i,i∈bK bl'->(i∈bK bl\/i∈nw)/\i≠1000000:=fun i hi=>by
  have:=List.all_eq_true.1 c2 i hi;rw[Bool.and_eq_true,Bool.or_eq_true] at this;exact⟨this.1.imp eM.1 eM.1,fun e=>by subst e; exact absurd this.2 (by decide)⟩
 have s3:∀ i,i∈nw->i∈bK bl':=fun i hi=>eM.1 (List.all_eq_true.1 c3 i hi);have s5:∀ b,b∈r.ptrs->b∈bK bl':=fun b hb=>eM.1 (List.all_eq_true.1 c5 b hb);have lv:∀ i,i∈bK bl->(live σ ρ i ↔ live (aH .no bl) ρ i):=fun i hi=>fS (hbl.look hi) rfl;have lv2:∀ i,live (aH .no bl) ρ i->live σ ρ i:=fun i hi=>(lv i (jP hi)).2 hi;have hBk:dO (aY cx σ ρ) ρ w pl bl:=by
  have key:∀ m:Sg D,kD σ m->(∀ k∈keys m,∃ i,k=.b i)->(∀ i∈bK m,pl=true->i ∉ bW (σ KP))->(∀ p∈m,(∃ T ch,p.2=.blk T ch)\/(∃ T k l,p.2=.row T k l)\/p.2=.dead)->dO (aY cx σ ρ) ρ w pl m:=by
   intro m
   induction m with
   | nil=>intro _ _ _ _; trivial
   | cons p m ih =>
    intro q1 q2 q3 q4;obtain⟨k,x⟩:=p;obtain⟨i,rfl⟩:=q2 k (by simp[keys]);have ih':=ih q1.2 (fun k hk=>q2 k (by simp only[keys,List.map_cons,List.mem_cons]; exact .inr hk)) (fun j hj=>q3 j (List.mem_cons_of_mem _ hj)) (fun p hp=>q4 p (List.mem_cons_of_mem _ hp));have hx:σ (.b i)=x:=q1.1;rcases q4 _ List.mem_cons_self with ⟨T,ch,e⟩ | ⟨T,k,l,e⟩ | e
    ·have e:x=_:=e;subst e;exact⟨⟨fun hp=>h.pln i T ch hx (q3 i List.mem_cons_self hp),h.blk i T ch hx⟩,ih'⟩
    ·have e:x=_:=e;subst e;exact⟨(h.row i T k l hx).go (Goes.refl _ _) rfl (fun _=>rfl) (fun hp=>q3 i List.mem_cons_self hp),ih'⟩
    ·have e:x=_:=e;subst e;exact ih'
  exact key bl hbl hblk (fun i hi hp=>hpl.1 hp i hi) hno
 refine hrun _ (hcon h.lofLt (fun w' hw'=>hwf w' (h.kept.trans hw' h.kept.size fun b hb ⟨i,hi,e⟩=>?_)) hall hBk (fun i hi=>.inr ⟨i,lv2 i hi,rfl⟩) (fun i j hi hj=>h.inj i j (lv2 i hi) (lv2 j hj))) ?_
 ·rcases h.mine i (lv2 i hi) with m | m
  ·omega
  ·exact e ▸ m
 rintro e w' ⟨v,ρ',rfl,hρ,hkp,hv,hB,hm,hj⟩;refine⟨v,rfl,hK _ _ ⟨ρ',?_⟩⟩;obtain⟨σ',hσ'⟩:∃ σ',σ'=upd σ ((.s d,.av r)::bl'):=⟨_,rfl⟩
 rw[<- hσ'];have kd:σ' (.s d)=.av r:=by rw[hσ']; show (bif Key.beq (.s d) (.s d) then _ else _)=_; rw[gQ]; rfl
 have kin:∀ i,i∈bK bl'->σ' (.b i)=aH .no bl' (.b i):=fun i hi=>by rw[hσ']; exact noK σ bl' i hi
 have kout:∀ i,i ∉ bK bl'->σ' (.b i)=σ (.b i):=fun i hi=>by rw[hσ']; exact aYb σ bl' i hi
 have ks:∀ q,q≠d->σ' (.s q)=σ (.s q):=fun q hq=>by
  rw[hσ'];refine lB ?_;simp only[keys,List.map_cons,List.mem_cons,not_or];refine⟨by simpa using hq,fun hm=>?_⟩;obtain⟨i,e⟩:=hb' _ hm;cases e
 have hKP:σ' KP=σ KP:=kout 1000000 fun hi=>(s2 _ hi).2 rfl;have hρo:∀ i,i ∉ bK bl'->ρ' i=ρ i:=fun i hi=>hρ i fun q=>hi (s3 i q);have lin:∀ i,i∈bK bl'->(live σ' ρ' i ↔ live (aH .no bl') ρ' i):=fun i hi=>fS (kin i hi) rfl;have lout:∀ i,i ∉ bK bl'->(live σ' ρ' i ↔ live σ ρ i):=fun i hi=>fS (kout i hi) (hρo i hi);have hL:∀ b,aY cx σ' ρ' b->aY cx σ ρ b\/∃ i,live (aH .no bl') ρ' i/\(ρ' i).1=b:=by
  rintro b (q | ⟨i,q1,q2⟩)
  ·exact .inl (.inl q)
  ·by_cases e:i∈bK bl'
   ·exact .inr ⟨i,(lin i e).1 q1,q2⟩
   ·exact .inl (.inr ⟨i,(lout i e).1 q1,by rw[<- hρo i e]; exact q2⟩)
 have gg:Goes (fun b=>aY cx σ ρ b\/∃ i,live (aH .no bl') ρ' i/\(ρ' i).1=b) w' (aY cx σ' ρ') w':=Goes.less hL;have old:∀ i,live (aH .no bl') ρ' i->w.heap.size<=(ρ' i).1\/∃ j,j∈bK bl/\live σ ρ j/\(ρ j).1=(ρ' i).1:=by
  intro i hi;rcases hm i hi with q | ⟨j,q1,q2⟩
  ·exact .inl q
  ·exact .inr ⟨j,jP q1,lv2 j q1,q2⟩
 have hne:∀ i,i∈bK bl'->σ' (.b i)≠.no:=fun i hi=>by rw[kin i hi]; exact hB.no hi
 have hkeep:∀ i,σ (.b i)≠.no->σ' (.b i)≠.no:=by
  intro i hi;by_cases e:i∈bK bl'
  ·exact hne i e
  ·rw[kout i e]; exact hi
 refine h.stepN (fun b=>∃ i,live (aH .no bl) ρ i/\(ρ i).1=b) (fun k=>k=.s d\/∃ i,i∈bK bl'/\k=.b i) (by rw[Pu.size_put]; exact h.size) (by rw[Pu.sX]; exact h.defers) hkp.os hkp.tape hkp.output hkp.size
  (fun b hb hnM=>hkp.block b hb hnM) (fun b ⟨i,hi,e⟩=>.inl ⟨i,lv2 i hi,e⟩) ?_ (fun i hi=>hρ i fun q=>hi (hnw.at q)) (fun i hi ⟨j,hj1,hj2⟩=>.inr ⟨i,?_,rfl⟩) (fun b hb q=>?_) ?_ ?_ ?_ (fun i hi q=>by rw[hKP] at q; exact q) ?_ ?_ ?_ ?_ hkeep
 ·intro k hk;cases k with
  | s q=>exact ks q fun e=>hk (.inl (by rw[e]))
  | b i=>exact kout i fun e=>hk (.inr ⟨i,e,rfl⟩)
 ·have:j=i:=h.inj j i (lv2 j hj1) hi hj2;subst this;exact s1 _ (jP hj1)
 ·rcases hL b q with q | ⟨i,q1,q2⟩
  ·exact q
  ·rcases old i q1 with m | ⟨j,_,m2,m3⟩
   ·omega
   ·exact .inr ⟨j,m2,m3.trans q2⟩
 ·rintro i (q | ⟨i',hi',q⟩) hi
  ·cases q
  ·injection q with q;subst q;rcases old i ((lin i hi').1 hi) with m | ⟨j,_,m2,m3⟩
   ·exact .inl (Nat.le_trans h.kept.size m)
   ·rw[<- m3]; exact h.mine j m2
 ·rintro i T ch (q | ⟨i',hi',q⟩) hi
  ·cases q
  ·injection q with q;subst q;rw[kin i hi'] at hi;obtain⟨g1,cs,g2,g3⟩:=hB.blk hi;refine⟨fun hq=>g1 ?_,cs,g2,g3.go gg fun _ _=>rfl⟩;cases hpb:pl with
   | true=>rfl
   | false=>rw[hKP] at hq; exact absurd (hpl.2 hpb i hi') hq
 ·rintro i T k l (q | ⟨i',hi',q⟩) hi
  ·cases q
  ·injection q with q;subst q;rw[kin i hi'] at hi;refine(hB.row hi).go gg rfl (fun _=>rfl) fun hq=>?_;cases hpb:pl with
   | true=>rfl
   | false=>rw[hKP] at hq; exact absurd (hpl.2 hpb i hi') hq
 ·intro i j hi hj' he;by_cases e1:i∈bK bl'
  ·by_cases e2:j∈bK bl'
   ·exact hj i j ((lin i e1).1 hi) ((lin j e2).1 hj') he
   ·have lj:=(lout j e2).1 hj';rw[hρo j e2] at he;rcases old i ((lin i e1).1 hi) with m | ⟨q,m1,m2,m3⟩
    ·have:=h.lt lj;omega
    ·have:=h.inj q j m2 lj (m3.trans he);subst this;exact absurd (s1 _ m1) e2
  ·have li:=(lout i e1).1 hi;rw[hρo i e1] at he;by_cases e2:j∈bK bl'
   ·rcases old j ((lin j e2).1 hj') with m | ⟨q,m1,m2,m3⟩
    ·have:=h.lt li;omega
    ·have:=h.inj q i m2 li (m3.trans he.symm);subst this;exact absurd (s1 _ m1) e1
   ·rw[hρo j e2] at he;exact h.inj i j li ((lout j e2).1 hj') he
 ·rintro q av (e | ⟨i,_,e⟩) hq
  ·injection e with e;subst e;rw[kd] at hq;obtain rfl:=(XV.av.injEq _ _).mp hq;rw[iW hn h.size,if_pos rfl];exact hv.go gg fun _ _=>rfl
  ·cases e
 ·intro q hq;rw[iW hn h.size,if_neg (fun e=>hq (.inl (by rw[e])))]
 ·rintro k b (e | ⟨i,hi,e⟩) hb
  ·subst e;rw[kd] at hb;exact hne b (s5 b hb)
  ·subst e;rw[kin i hi] at hb;exact hne b (aC1 c4 hb)
theorem aQk {pl:Bool} {ρ:aX} {a:Act} {w:World} {f:FuncId} {sas:List (SA D)} {vs:List Value} {bl bl':Sg D} {nw:List Nat} {r:AV D} {Q:Exit->Act->World->Prop} {K:Act->World->Prop} (h:Conc cx n ρ σ a w) (hcon:aBg P f sas bl r bl' nw pl (aY cx σ ρ) ρ w vs)
  (hwf:∀ w',Kept cx.w0.heap.size cx.Bw cx.w0 w'->bR.W D w') (hrun:(execOp a.eval o).run P w=.ok (.enter f vs.toArray) w) (hall:dN (aY cx σ ρ) ρ w sas vs) (hd:o.dst=some d) (hn:d<n) (hbl:kD σ bl) (hnw:lR σ nw)
  (hkE:kE bl r bl' nw=true) (hblk:∀ k∈keys bl,∃ i,k=.b i) (hpl:(pl=true->∀ i∈bK bl,i ∉ bW (σ KP))/\(pl=false->∀ i∈bK bl',i∈bW (σ KP))) (hb':∀ k∈keys bl',∃ i,k=.b i) (hno:∀ p∈bl,(∃ T ch,p.2=.blk T ch)\/(∃ T k l,p.2=.row T k l)\/p.2=.dead)
  (hK:∀ a' w',CC cx n (upd σ ((.s d,.av r)::bl')) a' w'->K a' w'):o.wp P a w K Q:=by
 refine aB6 (Goal:=o.wp P a w K Q) (run:=Calls P f) h hcon hwf (fun R hR hk=>?_) hall hn hbl hnw hkE hblk hpl hb' hno hK;unfold Oper.wp;rw[hrun,Oper.upon_enter];refine hR.mono ?_;intro e w' he;obtain⟨v,rfl,hv⟩:=hk e w' he;show K (a.put o.dst v) w';rw[hd];exact hv
def fB:Sg D->Bool
 | []=>true
 | (.b _,.blk _ _)::r=>fB r
 | (.b _,.row _ _ _)::r=>fB r
 | (.b _,.dead)::r=>fB r
 | _::_=>false
theorem kM:∀ {bl:Sg D},fB bl=true->(∀ k∈keys bl,∃ i,k=.b i)/\∀ p∈bl,(∃ T ch,p.2=.blk T ch)\/(∃ T k l,p.2=.row T k l)\/p.2=.dead
 | [],_=>⟨fun k hk=>by simp[keys] at hk,fun p hp=>by cases hp⟩
 | (.b i,x)::r,h=>by
  have hr:fB r=true/\((∃ T ch,x=.blk T ch)\/(∃ T k l,x=.row T k l)\/x=.dead):=by
   cases x with
   | blk T ch=>exact⟨h,.inl ⟨_,_,rfl⟩⟩
   | row T k l=>exact⟨h,.inr (.inl ⟨_,_,_,rfl⟩)⟩
   | dead=>exact⟨h,.inr (.inr rfl)⟩
   | no=>cases h
   | av x=>cases h
   | np l=>cases h
  obtain⟨h1,h2⟩:=kM hr.1;refine⟨fun k hk=>?_,fun p hp=>?_⟩
  ·rcases List.mem_cons.1 hk with q | q
   ·exact⟨i,q⟩
   ·exact h1 k q
  ·rcases List.mem_cons.1 hp with q | q
   ·subst q; exact hr.2
   ·exact h2 p q
 | (.s _,x)::r,h=>by cases x<;>cases h
def npE (pl:Bool) (bl bl':Sg D) (q:XV D):Bool:=bif pl then (bK bl).all fun i => !fG i (bW q) else (bK bl').all fun i=>fG i (bW q)
theorem aMk {pl:Bool} {bl bl':Sg D} {q:XV D} (h:npE pl bl bl' q=true):(pl=true->∀ i∈bK bl,i ∉ bW q)/\(pl=false->∀ i∈bK bl',i∈bW q):=by
 cases pl with
 | true =>
  refine⟨fun _ i hi hm=>?_,fun q=>(by cases q)⟩;have:=List.all_eq_true.1 h i hi;rw[eM.2 hm] at this;cases this
 | false=>exact⟨fun q=>(by cases q),fun _ i hi=>eM.1 (List.all_eq_true.1 h i hi)⟩
theorem aH6 {pl : Bool} {f : FuncId} {fn : Func} {caps : List (SA D)} {hne : gC caps ≠ []} {args : Array Operand} {tys : Array TypeId} {sas : List (SA D)} {r : AV D} {bl bl' : Sg D} {nw : List Nat} (hcon : yD P f (sas ++ caps) bl r bl' nw pl) (hfr : cx.fr = false) (hKP : bW (σ KP) = []) (hwf : ∀ w', Kept cx.w0.heap.size cx.Bw cx.w0 w' -> bR.W D w') (hf : P.funcs[f]? = some fn) (hname : (fn.name == "runtime.NumGoroutine") = false) (hb : fn.body.isSome = true)
  (ho:o.op=.call ⟨.value (.tmp t),args,tys⟩) (hd:o.dst=some d) (hn:d<n) (ht:σ (.s t)=.av (.one (.lk (fnR f caps hne)))) (hargs:vA σ args.toList sas) (hbl:kD σ bl) (hnw:lR σ nw) (hkE:kE bl r bl' nw=true) (ho1:fB bl=true) (ho2:fB bl'=true) (hnp:npE pl bl bl' (σ KP)=true) :
  aS P cx n σ o (KP::.s t::(args.toList.flatMap bF++keys bl)) ((.s d,.av r)::bl'):=by
 intro σ' a w Q ⟨ρ,h⟩ h1 h2 K hK;obtain⟨c,hc⟩:=Option.isSome_iff_exists.1 hb;have hs:=h.slt t _ ((h1 (.s t) (by simp)).trans ht);obtain⟨vs,hv,hat⟩:=hs w (Agree.refl _ _);have e1:a.eval (.tmp t)=.func (.func f) #[] vs.toArray:=hv;have hcaps:dN (aY cx σ' ρ) ρ w caps vs:=aHi fun w' hag=>by
  obtain⟨vs',hv',hat'⟩:=hs w' hag;rw[show a.tmps.getD t undef=_ from hv] at hv';injection hv' with q1 q2 q3;have:vs=vs':=by simpa using congrArg Array.toList q3
  rw[this]; exact hat'
 have hrun:(execOp a.eval o).run P w=.ok (.enter f (args.toList.map a.eval++vs).toArray) w:=by
  have h1 : fn.name ≠ "runtime.NumGoroutine" := by simpa using hname
  have h2:args.map a.eval++vs.toArray=(args.toList.map a.eval++vs).toArray:=Array.ext' (by simp);simp[execOp,ho,resolve,e1,Deferred.ofValue,invoke,callFunc,hf,h1,hc,h2]
 have hkp:σ' KP=σ KP:=h1 KP (by simp);refine aQk h (hcon _ _ _ _ (h.noInt hfr (by rw[hkp]; exact hKP))) hwf hrun (aId (hargs.is h fun q hq=>h1 q (by simp[hq])).1 hcaps) hd hn (hbl.same fun k hk=>h1 k (by simp[hk])) ?_ hkE (kM ho1).1 (by rw[hkp]; exact aMk hnp) (kM ho2).1 (kM ho1).2 hK;have key:∀ m:List Nat,lR σ m->(∀ i∈m,i∈bK bl')->lR σ' m:=by
  intro m
  induction m with
  | nil=>intro _ _; trivial
  | cons i m ih=>exact fun q1 q2=>⟨(h2 (.b i) (by simp only[keys,List.map_cons,List.mem_cons]; exact .inr (mL.1 (q2 i List.mem_cons_self)))).trans q1.1,ih q1.2 fun j hj=>q2 j (List.mem_cons_of_mem _ hj)⟩
 exact key nw hnw fun i hi=>by
  simp only[kE,Bool.and_eq_true] at hkE;exact eM.1 (List.all_eq_true.1 hkE.1.1.2 i hi)
/-! A function that changes its caller's blocks. -/
abbrev dL:Key:=.s 1000000
abbrev eQ (ks:List Nat) (ρ0:aX) (hne:ks≠[]):XV D:=.av (.one (.lk (aNp ks ρ0 hne)))
def jX (σ:St D):Sg D->Prop
 | []=>True
 | (_,.dead)::r=>jX σ r
 | (k,x)::r=>σ k=x/\jX σ r
def yB (P:Program) (cx:Cx D) (n:Nat) (fn:Func) (r:AV D) (bl':Sg D) (pl:Bool) (x:XV D) (e:Exit) (l:Sg D):Prop :=
 (e=.normal\/e=.ret)/\aH .no l dL=x/\jX (aH .no l) bl'/\(pl=true->bW (aH .no l KP)=[])/\∀ ρ a w,Conc cx n ρ (aH .no l) a w->∃ v,(results fn a.tmps).run P w=.ok v w/\r.is (aY cx (aH .no l) ρ) ρ w v
theorem jX.live {ρ:aX} {i:Nat}:∀ {bl:Sg D},jX σ bl->Vc.live (aH .no bl) ρ i->σ (.b i)=aH .no bl (.b i)
 | [],_,h=>absurd rfl (wV h)
 | (k,x)::r,hb,h=>by
  have hr:jX σ r:=by cases x<;>first | exact hb | exact hb.2
  cases e:Key.beq k (.b i) with
  | true =>
   obtain rfl:=rD.1 e;have e2:aH .no ((.b i,x)::r) (.b i)=x:=by show (bif Key.beq (.b i) (.b i) then x else _)=_; rw[gQ]; rfl
   rw[e2];cases x with
   | dead =>
    rcases fZ h with ⟨T,ch,q⟩ | ⟨T,k,l,q,_⟩<;>rw[e2] at q<;>cases q
   | no=>exact hb.1
   | av x=>exact hb.1
   | blk T ch=>exact hb.1
   | row T k l=>exact hb.1
   | np l=>exact hb.1
  | false =>
   have e2:aH .no ((k,x)::r) (.b i)=aH .no r (.b i):=by show (bif Key.beq k (.b i) then x else _)=_; rw[e]; rfl
   rw[e2];exact jX.live hr ((fS (σ:=aH .no r) e2 rfl).1 h)
def stE (args:List (SA D)) (bl:Sg D):Bool:=((gC args).all fun b=>fG b (bK bl))&&(bl.all fun p=>p.2.ptrs.all fun b=>fG b (bK bl))
theorem rS {l m:Sg D} {k:Key} (h:k ∉ keys l):aH .no (l++m) k=aH .no m k:=by
 rw[<- fU];exact lB h
theorem aIb {l m:Sg D} {k:Key} (h:k∈keys l):aH .no (l++m) k=aH .no l k:=by
 rw[<- fU,<- List.append_nil l,<- fU,List.append_nil];exact upd_same h
theorem aR0 {args:List (SA D)} {i:Nat} {k:Key} (h:k∈keys (gW i args)):∃ j,j<args.length/\k=.s (i+j):=by
 obtain⟨p,hp,rfl⟩:=List.mem_map.1 h;obtain⟨j,s,h1,h2,_⟩:=wW args i p.1 p.2 hp;exact⟨j,(List.getElem?_eq_some_iff.1 h1).1,h2⟩
def pR (pl:Bool) (bl':Sg D):Sg D:=bif pl then [] else [(KP,.np (bK bl'))]
theorem aIz {pl:Bool} {f:FuncId} {fn:Func} {c:Code} {args:List (SA D)} {bl bl':Sg D} {nw:List Nat} {r:AV D} (hne:bK bl≠[]) (hf:P.funcs[f]?=some fn) (hb:fn.body=some c) (hnt:fn.ntmps=n) (hn6:Nat.ble n 1000000=true) (hn:Nat.ble args.length n=true) (ho1:fB bl=true) (hst:stE args bl=true) (hkE:kE bl r bl' nw=true) (ho2:fB bl'=true)
  (L:Nat->Prop) (ρ:aX) (w:World) (vs:List Value)
  (h:∀ cx:iQ D,cx.w0=w->cx.L0=L->(∀ w,Kept cx.w0.heap.size cx.Bw cx.w0 w->bR.W D w)->(∀ b,cx.Bw b->∃ i,i∈bK bl/\live (aH .no bl) ρ i/\(ρ i).1=b)->CV P cx n c (gW 0 args++(bl++(dL,eQ (bK bl) ρ hne)::pR pl bl')) (yB P cx n fn r bl' pl (eQ (bK bl) ρ hne))):aBg P f args bl r bl' nw pl L ρ w vs:=by
 subst hnt;intro hlt hW hall hbk hLb hinj;have hn':=Nat.le_of_ble_eq_true hn;have hn6':=Nat.le_of_ble_eq_true hn6;simp only[stE,Bool.and_eq_true] at hst;obtain⟨t1,t2⟩:=hst;simp only[kE,Bool.and_eq_true] at hkE;obtain⟨⟨⟨⟨c1,c2⟩,c3⟩,c4⟩,c5⟩:=hkE;obtain⟨o1,o2⟩:=kM ho1;obtain⟨o3,o4⟩:=kM ho2;obtain⟨cx,hcx⟩:∃ cx:iQ D,cx=⟨w,L,hlt,true,fun b=>∃ i,live (aH .no bl) ρ i/\(ρ i).1=b,fun b ⟨i,hi,e⟩=>e ▸ hLb i hi,(fun q=>nomatch q),(fun q=>nomatch q),(fun q=>nomatch q)⟩:=⟨_,rfl⟩
 have x1:cx.w0=w:=by rw[hcx]
 have x2:cx.L0=L:=by rw[hcx]
 have x3:cx.Bw=fun b=>∃ i,live (aH .no bl) ρ i/\(ρ i).1=b:=by rw[hcx]
 obtain⟨σ,hσ⟩:∃ σ,σ=aH .no (gW 0 args++(bl++(dL,eQ (bK bl) ρ hne)::pR pl bl')):=⟨_,rfl⟩
 have hA:∀ i,.b i ∉ keys (gW 0 args):=fun i hi=>by obtain⟨j,_,e⟩:=aR0 hi; cases e
 have s2:∀ i,i∈bK bl'->i≠1000000:=fun i hi e=>by
  have:=List.all_eq_true.1 c2 i hi;rw[Bool.and_eq_true] at this;subst e;exact absurd this.2 (by decide)
 have s1:∀ i,i∈bK bl->i∈bK bl':=fun i hi=>eM.1 (List.all_eq_true.1 c1 i hi);have kb:∀ i,i≠1000000->σ (.b i)=aH .no bl (.b i):=by
  intro i hi6;rw[hσ,rS (hA i)];by_cases e:.b i∈keys bl
  ·exact aIb e
  ·rw[rS e,tN e];show (bif Key.beq dL (.b i) then _ else aH .no (pR pl bl') (.b i))=_;rw[gR (by simp),cond_false];cases pl with
   | true=>rfl
   | false =>
    show (bif Key.beq KP (.b i) then _ else XV.no)=_;rw[gR (by simpa[KP] using fun e:1000000=i=>hi6 e.symm),cond_false]
 have hK0:aH .no bl KP=.no:=tN fun hm=>s2 _ (s1 _ (mL.2 hm)) rfl;have kK:σ KP=bif pl then .no else .np (bK bl'):=by
  show σ (.b 1000000)=_;rw[hσ,rS (hA _),rS (fun hm=>s2 _ (s1 _ (mL.2 hm)) rfl)];show (bif Key.beq dL KP then _ else aH .no (pR pl bl') KP)=_;rw[gR (by simp[KP]),cond_false];cases pl with
  | true=>rfl
  | false =>
   show (bif Key.beq KP KP then _ else XV.no)=_;rw[gQ]; rfl
 have ks:∀ t,t<args.length->σ (.s t)=aH .no (gW 0 args) (.s t)\/σ (.s t)=σ (.s t):=fun _ _=>.inr rfl;have kl:∀ t av,σ (.s t)=.av av->(∃ s,args[t]?=some s/\av=.one s)\/(t=1000000/\av=.one (.lk (aNp (bK bl) ρ hne))):=by
  intro t av ht;by_cases e:.s t∈keys (gW 0 args)
  ·rw[hσ,aIb e] at ht;obtain⟨j,s,h1,h2,h3⟩:=wW args 0 _ _ (lD ht (by simp));injection h2 with h2;rw[Nat.zero_add] at h2;subst h2;exact .inl ⟨s,h1,(XV.av.injEq _ _).mp h3⟩
  ·rw[hσ,rS e,rS (fun hm=>by obtain⟨i,q⟩:=o1 _ hm; cases q)] at ht;have hkE0:aH .no (pR pl bl') (.s t)=.no:=by cases pl<;>rfl
   have ht:(bif Key.beq dL (.s t) then eQ (bK bl) ρ hne else aH .no (pR pl bl') (.s t))=_:=ht;rw[hkE0] at ht;cases e2:Key.beq dL (.s t) with
   | true =>
    rw[e2] at ht;have e3:=rD.1 e2;injection e3 with e3;exact .inr ⟨e3.symm,((XV.av.injEq _ _).mp ht).symm⟩
   | false=>rw[e2] at ht; cases ht
 have k6:∀ i,live σ ρ i->i≠1000000:=by
  rintro i hi rfl;rcases fZ hi with ⟨T,ch,e⟩ | ⟨T,k,l,e,_⟩
  ·rw[show σ (.b 1000000)=_ from kK] at e; cases pl<;>cases e
  ·rw[show σ (.b 1000000)=_ from kK] at e; cases pl<;>cases e
 have lv:∀ i,live σ ρ i ↔ live (aH .no bl) ρ i:=fun i=>by
  by_cases e:i=1000000
  ·exact⟨fun hi=>absurd e (k6 i hi),fun hi=>absurd e (s2 i (s1 i (jP hi)))⟩
  ·exact fS (kb i e) rfl
 have hLof:∀ b,aY cx σ ρ b->L b:=by
  rintro b (q | ⟨i,q1,q2⟩)
  ·rwa[x2] at q
  ·exact q2 ▸ hLb i ((lv i).1 q1)
 have gg:Goes L w (aY cx σ ρ) w:=Goes.less hLof;have hown:∀ b,b∈bK bl->σ (.b b)≠.no:=fun b hb=>by rw[kb b (s2 b (s1 b hb))]; exact hbk.no hb
 have hstart:CC cx fn.ntmps σ { tmps:=vs.toArray++Array.replicate (fn.ntmps-vs.toArray.size) undef,defers:=[] } w:=by
  have hlen:=yP hall;refine⟨ρ,by simp; omega,rfl,by rw[x1]; exact Kept.refl _ _ _,fun i hi=>.inr (by rw[x3]; exact⟨i,(lv i).1 hi,rfl⟩),fun i T ch hi=>?_,fun i T k l hi=>?_,fun i j hi hj=>hinj i j ((lv i).1 hi) ((lv j).1 hj),?_,?_,fun i T ch hi=>?_⟩
  ·have h6:=k6 i (iV hi);rw[kb i h6] at hi;obtain⟨_,cs,g1,g2⟩:=hbk.blk hi;exact⟨cs,g1,g2.go gg fun _ _=>rfl⟩
  ·have h6:i≠1000000:=by
    rintro rfl;rw[show σ (.b 1000000)=_ from kK] at hi;cases pl<;>cases hi
   rw[kb i h6] at hi;refine(hbk.row hi).go gg rfl (fun _=>rfl) fun hq=>?_;cases hpb:pl with
   | true=>rfl
   | false =>
    rw[kK,hpb] at hq;exact absurd (s1 i (Classical.byContradiction fun hn=>by rw[tN (fun hm=>hn (mL.2 hm))] at hi; cases hi)) hq
  ·intro t av ht;rcases kl t av ht with ⟨s,h1,rfl⟩ | ⟨rfl,rfl⟩
   ·obtain⟨v,h4,h5⟩:=aDn hall h1;have hv:(vs.toArray++Array.replicate (fn.ntmps-vs.toArray.size) undef).getD t undef=v:=by
     have hlt:=(List.getElem?_eq_some_iff.1 h4).1;rw[Array.getD_eq_getD_getElem?,Array.getElem?_append_left (by simpa using hlt),List.getElem?_toArray,h4];rfl
    show SA.is _ _ _ s _;rw[hv];exact h5.go gg fun _ _=>rfl
   ·intro w' _;refine⟨?_,fun _ _=>rfl⟩;rw[Array.getD_eq_getD_getElem?,Array.getElem?_eq_none (by simp; omega)];rfl
  ·intro k b hb';cases k with
   | b i =>
    by_cases e6:i=1000000
    ·subst e6;rw[show σ (.b 1000000)=_ from kK] at hb';cases pl<;>cases hb'
    ·rw[kb i e6] at hb';exact hown b (aC1 t2 hb')
   | s t =>
    cases e:σ (.s t) with
    | av av =>
     rw[e] at hb';rcases kl t av e with ⟨s,h1,rfl⟩ | ⟨rfl,rfl⟩
     ·exact hown b (eM.1 (List.all_eq_true.1 t1 b (List.mem_flatMap.2 ⟨s,List.mem_of_getElem? h1,hb'⟩)))
     ·exact hown b hb'
    | no=>rw[e] at hb'; cases hb'
    | blk T ch =>
     exfalso;have hm:(Key.s t,XV.blk T ch)∈gW 0 args++(bl++(dL,eQ (bK bl) ρ hne)::pR pl bl'):=lD (by rw[<- hσ]; exact e) (by simp);rcases List.mem_append.1 hm with q | q
     ·obtain⟨_,_,_,_,q2⟩:=wW args 0 _ _ q; cases q2
     ·rcases List.mem_append.1 q with q | q
      ·obtain⟨i,q2⟩:=o1 _ (List.mem_map.2 ⟨_,q,rfl⟩); cases q2
      ·rcases List.mem_cons.1 q with q | q
       ·injection q with _ q2; cases q2
       ·cases pl
        ·have:=List.mem_singleton.1 q; injection this with _ q2; cases q2
        ·cases q
    | row T k l=>rw[e] at hb'; cases hb'
    | dead=>rw[e] at hb'; cases hb'
    | np l=>rw[e] at hb'; cases hb'
  ·intro hq;have h6:=k6 i (iV hi);rw[kb i h6] at hi;refine(hbk.blk hi).1 ?_;cases hpb:pl with
   | true=>rfl
   | false =>
    rw[kK,hpb] at hq;exact absurd (s1 i (Classical.byContradiction fun hn=>by rw[tN (fun hm=>hn (mL.2 hm))] at hi; cases hi)) hq
 have hCV:=h cx x1 x2 (by rw[x1,x3]; exact hW) (by rw[x3]; exact fun b ⟨i,hi,e⟩=>⟨i,jP hi,hi,e⟩);rw[hσ] at hstart;refine calls_of_wp hf hb (wp_mono (hCV.run _ w hstart) ?_);rintro e a' w' ⟨l',⟨ρ'',hC⟩,he,hlk,hbo,hnp,hres⟩;obtain⟨v,h1,h2⟩:=hres ρ'' a' w' hC;have hlink:∀ i,i∈bK bl->ρ'' i=ρ i:=(hC.slt 1000000 _ hlk w' (Agree.refl _ _)).2;obtain⟨ρ',hρ'⟩:∃ ρ':aX,ρ'=fun i=>if i∈nw then ρ'' i else ρ i:=⟨_,rfl⟩
 have hr1:∀ i,i ∉ nw->ρ' i=ρ i:=fun i hi=>by rw[hρ']; simp[hi]
 have hr2:∀ i,i∈bK bl'->ρ' i=ρ'' i:=by
  intro i hi;by_cases e:i∈nw
  ·rw[hρ']; simp[e]
  ·rw[hr1 i e];have:=List.all_eq_true.1 c2 i hi;rw[Bool.and_eq_true,Bool.or_eq_true] at this;rcases this.1 with q | q
   ·exact(hlink i (eM.1 q)).symm
   ·exact absurd (eM.1 q) e
 have lb:∀ i,live (aH .no bl') ρ' i->live (aH .no bl') ρ'' i/\live (aH .no l') ρ'' i:=by
  intro i hi;have e:=hr2 i (jP hi);have e2:live (aH .no bl') ρ'' i:=(fS rfl e.symm).2 hi;exact⟨e2,(fS (hbo.live e2) rfl).2 e2⟩
 have hLL:∀ b,(L b\/∃ i,live (aH .no bl') ρ' i/\(ρ' i).1=b)->aY cx (aH .no l') ρ'' b:=by
  rintro b (q | ⟨i,q1,q2⟩)
  ·exact .inl (by rw[x2]; exact q)
  ·exact .inr ⟨i,(lb i q1).2,by rw[<- hr2 i (jP q1)]; exact q2⟩
 have g2:Goes (aY cx (aH .no l') ρ'') w' (fun b=>L b\/∃ i,live (aH .no bl') ρ' i/\(ρ' i).1=b) w':=Goes.less hLL;have hkept:Kept w.heap.size (fun b=>∃ i,live (aH .no bl) ρ i/\(ρ i).1=b) w w':=by
  have:=hC.kept;rw[x1,x3] at this;exact this
 have hBk:dO (fun b=>L b\/∃ i,live (aH .no bl') ρ' i/\(ρ' i).1=b) ρ' w' pl bl':=by
  have key:∀ m:Sg D,jX (aH .no l') m->(∀ k∈keys m,∃ i,k=.b i)->(∀ p∈m,(∃ T ch,p.2=.blk T ch)\/(∃ T k l,p.2=.row T k l)\/p.2=.dead)->(∀ i,i∈bK m->ρ' i=ρ'' i)->(∀ p∈m,∀ b∈p.2.ptrs,ρ' b=ρ'' b)->dO (fun b=>L b\/∃ i,live (aH .no bl') ρ' i/\(ρ' i).1=b) ρ' w' pl m:=by
   intro m
   induction m with
   | nil=>intro _ _ _ _ _; trivial
   | cons p m ih =>
    intro q1 q2 q3 q4 q5;obtain⟨k,x⟩:=p;obtain⟨i,rfl⟩:=q2 k (by simp[keys]);have ih':jX (aH .no l') m->dO (fun b=>L b\/∃ i,live (aH .no bl') ρ' i/\(ρ' i).1=b) ρ' w' pl m:=fun z=>ih z (fun k hk=>q2 k (by simp only[keys,List.map_cons,List.mem_cons]; exact .inr hk)) (fun p hp=>q3 p (List.mem_cons_of_mem _ hp)) (fun j hj=>q4 j (List.mem_cons_of_mem _ hj)) (fun p hp=>q5 p (List.mem_cons_of_mem _ hp));have hi:=q4 i List.mem_cons_self;rcases q3 _ List.mem_cons_self with ⟨T,ch,e⟩ | ⟨T,k,l,e⟩ | e
    ·have e:x=_:=e;subst e;obtain⟨cs,g3,g4⟩:=hC.blk i T ch q1.1;exact⟨⟨fun hp=>hC.pln i T ch q1.1 (by rw[hnp hp]; simp),cs,by rw[hi]; exact g3,g4.go g2 fun b hb=>q5 _ List.mem_cons_self b hb⟩,ih' q1.2⟩
    ·have e:x=_:=e;subst e;have hrow:=hC.row i T k l q1.1;exact⟨(hrow.go (pl':=pl=true) g2 hi (fun _=>rfl) fun hp=>by rw[hnp hp]; simp),ih' q1.2⟩
    ·have e:x=_:=e;subst e;exact ih' q1
  exact key bl' hbo o3 o4 hr2 fun p hp b hb=>hr2 b (eM.1 (List.all_eq_true.1 (List.all_eq_true.1 c4 p hp) b hb))
 have hfin:∃ u,(results fn a'.tmps).run P w'=.ok u w'/\∃ v ρ',Ending.returned u=.returned v/\(∀ i,i ∉ nw->ρ' i=ρ i)/\Kept w.heap.size (fun b=>∃ i,live (aH .no bl) ρ i/\(ρ i).1=b) w w' /\
   r.is (fun b=>L b\/∃ i,live (aH .no bl') ρ' i/\(ρ' i).1=b) ρ' w' v/\dO (fun b=>L b\/∃ i,live (aH .no bl') ρ' i/\(ρ' i).1=b) ρ' w' pl bl' /\
   (∀ i,live (aH .no bl') ρ' i->w.heap.size<=(ρ' i).1\/∃ j,live (aH .no bl) ρ j/\(ρ j).1=(ρ' i).1)/\(∀ i j,live (aH .no bl') ρ' i->live (aH .no bl') ρ' j->(ρ' i).1=(ρ' j).1->i=j):=by
  refine⟨v,h1,v,ρ',rfl,hr1,hkept,h2.go g2 fun b hb=>hr2 b (eM.1 (List.all_eq_true.1 c5 b hb)),hBk,fun i hi=>?_,fun i j hi hj he=>?_⟩
  ·have:=hC.mine i (lb i hi).2;rw[x1,x3] at this;rw[hr2 i (jP hi)];exact this
  ·rw[hr2 i (jP hi),hr2 j (jP hj)] at he;exact hC.inj i j (lb i hi).2 (lb j hj).2 he
 rcases he with rfl | rfl
 ·exact⟨hC.defers,hfin⟩
 ·exact⟨hC.defers,hfin⟩
def yH (cx:iQ D):Prop:=∀ b,cx.L0 b->∀ cs T fr,cx.w0.heap[b]?=some (.cells cs T fr)->∀ c∈cs.toList,cW c=true
theorem yD.of {pl:Bool} {f:FuncId} {fn:Func} {c:Code} {args:List (SA D)} {bl bl':Sg D} {nw:List Nat} {r:AV D} (hne:bK bl≠[]) (hf:P.funcs[f]?=some fn) (hb:fn.body=some c) (hnt:fn.ntmps=n) (hn6:Nat.ble n 1000000=true) (hn:Nat.ble args.length n=true) (ho1:fB bl=true) (hst:stE args bl=true) (hkE:kE bl r bl' nw=true) (ho2:fB bl'=true)
  (h:∀ (cx:iQ D) (ρ0:aX),yH cx->(∀ w,Kept cx.w0.heap.size cx.Bw cx.w0 w->bR.W D w)->(∀ b,cx.Bw b->∃ i,i∈bK bl/\live (aH .no bl) ρ0 i/\(ρ0 i).1=b)->CV P cx n c (gW 0 args++(bl++(dL,eQ (bK bl) ρ0 hne)::pR pl bl')) (yB P cx n fn r bl' pl (eQ (bK bl) ρ0 hne))):yD P f args bl r bl' nw pl :=
 fun L ρ w vs hni=>aIz hne hf hb hnt hn6 hn ho1 hst hkE ho2 L ρ w vs fun cx h1 h2 hW hBw=>h cx ρ (by unfold yH; rw[h1,h2]; exact hni) hW hBw
def aXv:XV D->Bool
 | .blk _ _=>true
 | _=>false
theorem aJs {ks:List Nat} {hne:ks≠[]} {ρ0:aX} {bl:Sg D} {d f:Nat} {fn:Func} {args:Array Operand} {tys:Array TypeId} {sas:List (SA D)} {r:AV D} (hNI:yH cx) (hW:∀ w,Kept cx.w0.heap.size cx.Bw cx.w0 w->bR.W D w) (hBw:∀ b,cx.Bw b->∃ i,i∈ks/\live (aH .no bl) ρ0 i/\(ρ0 i).1=b) (hlk:σ dL=eQ ks ρ0 hne) (hks:(ks.all fun i=>aXv (σ (.b i)))=true)
  (hcon:aC P f sas r) (ho:o.op=.call ⟨.value (.func f),args,tys⟩) (hd:o.dst=some d) (hn:d<n)
  (hf : P.funcs[f]? = some fn) (hname : (fn.name == "runtime.NumGoroutine") = false) (hb : fn.body.isSome = true) (hargs : dV σ args.toList sas) (hr : r.ptrs = []) (hKP : bW (σ KP) = []) :
  aS P cx n σ o (KP::dL::(ks.map Key.b++args.toList.flatMap bF)) [(.s d,.av r)]:=by
 intro σ' a w Q ⟨ρ,h⟩ h1 _ K hK;have hlink:∀ i,i∈ks->ρ i=ρ0 i:=(h.slt 1000000 _ ((h1 dL (by simp)).trans hlk) w (Agree.refl _ _)).2;have hlive:∀ i,i∈ks->live σ' ρ i:=by
  intro i hi;have e:σ' (.b i)=σ (.b i):=h1 _ (by simp[hi]);have:=List.all_eq_true.1 hks i hi;rw[<- e] at this;cases e2:σ' (.b i) with
  | blk T ch=>exact iV e2
  | no=>rw[e2] at this; cases this
  | av x=>rw[e2] at this; cases this
  | row T k l=>rw[e2] at this; cases this
  | dead=>rw[e2] at this; cases this
  | np l=>rw[e2] at this; cases this
 have hKP':bW (σ' KP)=[]:=by rw[h1 KP (by simp)]; exact hKP
 have own:∀ i,live σ' ρ i->∀ cs T fr,w.heap[(ρ i).1]?=some (.cells cs T fr)->∀ c∈cs.toList,cW c=true:=by
  intro i hi cs T' fr hc c hcm;rcases fZ hi with ⟨T,ch,e⟩ | ⟨T,k,l,e,hcap⟩
  ·obtain⟨cs',hc',hch⟩:=h.blk i T ch e;rw[hc] at hc';obtain⟨rfl,-,-⟩:=(Obj.cells.injEq _ _ _ _ _ _).mp (Option.some.inj hc');exact hch.plain (h.pln i T ch e (by rw[hKP']; simp)) c (by simpa using hcm)
  ·obtain⟨cs',sp,⟨_,hc',_⟩,h2,h3,h5⟩:=(h.row i T k l e).2 hcap;rw[hc] at hc';obtain⟨rfl,-,-⟩:=(Obj.cells.injEq _ _ _ _ _ _).mp (Option.some.inj hc');exact h5 (by rw[hKP']; simp) c (by simpa using hcm)
 have hni:gH (aY cx σ' ρ) w:=by
  rintro b (hb0 | ⟨i,hi,rfl⟩) cs T' fr hc c hcm
  ·by_cases hB:cx.Bw b
   ·obtain⟨i,q1,q2,q3⟩:=hBw b hB;rw[<- q3,<- hlink i q1] at hc;exact own i (hlive i q1) cs T' fr hc c hcm
   ·rw[h.kept.block b (cx.lt b hb0) hB] at hc;exact hNI b hb0 cs T' fr hc c hcm
  ·exact own i hi cs T' fr hc c hcm
 unfold Oper.wp;rw[wP (d:=d) ho hf hname hb,Oper.upon_enter];refine(hcon (aY cx σ' ρ) ρ w _ h.lofLt hni (hW w h.kept) (hargs.is h fun k hk=>h1 k (by simp[hk]))).mono ?_;rintro e w' ⟨v,rfl,hbel,hv⟩;show K (a.put o.dst v) w';rw[hd];exact hK _ _ ⟨ρ,h.put hbel hn hv (by rw[hr]; intro b hb; cases hb)⟩
end
end Vc
end Go.Proofs.YtjmbkipbmbnhjaaGreat

namespace Go.Proofs.YtjmbkipbmbnhjaaGreat
open Go.RowKit
open Go.Lib (hid)
open Dg Zn
namespace Vc
set_option linter.unusedSectionVars false
section
variable {D:Type} [bR D] {P:Program} {cx:Cx D} {n:Nat} {σ:St D} {o:Oper} {d t:Nat}
def aBp (r:AV D):Prop:=∀ L L' ρ w v,r.is L ρ w v->r.is L' ρ w v
theorem aMy (x:Value):aBp (.one (.v x):AV D):=fun _ _ _ _ _ h=>h
theorem aDh {f:FuncId} {fn:Func} {args:Array Operand} {tys:Array TypeId} {sas:List (SA D)} {r:AV D} (hcon:aC P f sas r) (hfree:aBp r) (hwf:∀ w',Kept cx.w0.heap.size cx.Bw cx.w0 w'->bR.W D w') (ho:o.op=.call ⟨.value (.func f),args,tys⟩) (hd:o.dst=some d) (hn:d<n)
  (hf : P.funcs[f]? = some fn) (hname : (fn.name == "runtime.NumGoroutine") = false) (hb : fn.body.isSome = true) (hargs : dV σ args.toList sas) (hr : r.ptrs = []) :
  aS P cx n σ o (args.toList.flatMap bF) [(.s d,.av r)]:=by
 intro σ' a w Q ⟨ρ,h⟩ h1 _ K hK;unfold Oper.wp;rw[wP (d:=d) ho hf hname hb,Oper.upon_enter];refine(hcon (fun _=>False) ρ w _ (fun _ q=>q.elim) (fun _ q=>q.elim) (hwf w h.kept) ((hargs.is h h1).go (Goes.less fun _ q=>q.elim) fun _ _=>rfl)).mono ?_;rintro e w' ⟨v,rfl,hbel,hv⟩;show K (a.put o.dst v) w';rw[hd];exact hK _ _ ⟨ρ,h.put hbel hn (hfree _ _ _ _ _ hv) (by rw[hr]; intro b hb; cases hb)⟩
theorem aXy {fn:Func} {rv:ResultVar} {s:SA D} {r:AV D} {bl':Sg D} {pl:Bool} {x:XV D} {e:Exit} {l:Sg D} (hres:fn.results=#[rv]) (he:e=.normal\/e=.ret) (hlk:aH .no l dL=x) (hbo:jX (aH .no l) bl') (hnp:pl=true->bW (aH .no l KP)=[]) (hr:vF P (aH .no l) s rv) (hc:∀ L ρ w v,s.is L ρ w v->r.is L ρ w v):yB P cx n fn r bl' pl x e l :=
 ⟨he,hlk,hbo,hnp,(aW (P:=P) (cx:=cx) (n:=n) hres he hr hc).2⟩
theorem aXz {fn:Func} {bl':Sg D} {pl:Bool} {x:XV D} {e:Exit} {l:Sg D} (hres:fn.results=#[]) (he:e=.normal\/e=.ret) (hlk:aH .no l dL=x) (hbo:jX (aH .no l) bl') (hnp:pl=true->bW (aH .no l KP)=[]):yB P cx n fn (.tup []) bl' pl x e l :=
 ⟨he,hlk,hbo,hnp,fun ρ a w _=>⟨.tuple #[],by simp[results,hres],[],rfl,trivial⟩⟩
end
section
variable {P:Program} {cx:Cx Dm} {n:Nat}
theorem aHm {c:Code} {K:Exit->Sg Dm->Prop} {r t:Nat} {T:TypeId} {k:Option Nat} {s:SA Dm} {l0:Sg Dm} (hB:∀ ρ a w,Conc cx n ρ (aH .no l0) a w->¬ cx.Bw (ρ r).1) (hr:aH .no l0 (.b r)=.blk T [(k,s)]) (ht:aH .no l0 (.s t)=.av (.one (.ptr r 0))) (hp:s.ptrs=[]) (hrK:Nat.beq r 1000000=false)
  (h:CV P cx n c ((.s t,.av (.one (.d (Dm.gen (pG k s)))))::(.b r,.dead)::l0) K):CV P cx n c l0 K:=by
 refine⟨fun a w ⟨ρ,hC⟩=>h.run a w ⟨ρ,?_⟩⟩;have hB':=hB ρ a w hC;obtain⟨σ,hσ⟩:∃ σ,σ=aH .no l0:=⟨_,rfl⟩
 rw[<- hσ] at hr ht hC;obtain⟨σ',hσ'⟩:∃ σ',σ'=upd σ [(.s t,.av (.one (.d (Dm.gen (pG k s))))),(.b r,.dead)]:=⟨_,rfl⟩
 have e0:aH .no ((.s t,.av (.one (.d (Dm.gen (pG k s)))))::(.b r,.dead)::l0)=σ':=by rw[hσ',hσ,fU]; rfl
 rw[e0];have k1:σ' (.s t)=.av (.one (.d (Dm.gen (pG k s)))):=by rw[hσ']; exact aEx
 have k2:σ' (.b r)=.dead:=by rw[hσ']; exact aAr
 have k3:∀ k,k≠.s t->k≠.b r->σ' k=σ k:=fun k h1 h2=>by rw[hσ']; exact zX h1 h2
 have hrK1:r≠1000000:=fun e=>by subst e; cases hrK
 have hKP:σ' KP=σ KP:=k3 _ (by simp[KP]) (by simp[KP]; omega);have hrl:∀ j,live σ' ρ j->live σ ρ j/\j≠r:=by
  intro j hj;have e:j≠r:=by
   rintro rfl;rcases fZ hj with ⟨T,ch,e⟩ | ⟨T,k,l,e,_⟩<;>rw[k2] at e<;>cases e
  exact⟨(fS (k3 _ (by simp) (by simpa using e)) rfl).1 hj,e⟩
 have hev:a.tmps.getD t undef=.pointer (some ⟨(ρ r).1,0,none⟩):=hC.slt t _ ht;have hlv:live σ ρ r:=iV hr;refine hC.step (fun _=>False) (fun k=>k=.s t\/k=.b r) hC.size hC.defers rfl rfl rfl (Nat.le_refl _) (fun _ _ _=>rfl) (fun _ q=>q.elim)
  (fun k hk=>k3 k (fun q=>hk (.inl q)) (fun q=>hk (.inr q))) (fun _ _=>rfl) (fun _ _ q=>q.elim) (fun b _ q=>?_) ?_ ?_ ?_ (fun i _ q=>by rw[hKP] at q; exact q) (fun i j hi hj=>hC.inj i j (hrl i hi).1 (hrl j hj).1) ?_ (fun _ _=>rfl) ?_ ?_
 ·rcases q with q | ⟨j,q1,q2⟩
  ·exact .inl q
  ·exact .inr ⟨j,(hrl j q1).1,q2⟩
 ·rintro i (q | q) hi
  ·cases q
  ·injection q with q; subst q; exact absurd rfl (hrl _ hi).2
 ·rintro i T1 ch (q | q) hi
  ·cases q
  ·injection q with q; subst q; rw[k2] at hi; cases hi
 ·rintro i T1 k1 l1 (q | q) hi
  ·cases q
  ·injection q with q; subst q; rw[k2] at hi; cases hi
 ·rintro t1 av (q | q) ht1
  ·injection q with q;subst q;rw[k1] at ht1;obtain rfl:=(XV.av.injEq _ _).mp ht1;rw[hev];intro w' hag;obtain⟨cs,g1,p,q,v,rfl,g3,g4,g5⟩:=hC.blk r T _ hr;obtain rfl:q=[]:=g5;rw[List.append_nil] at g1;have hnL:¬ aY cx σ' ρ (ρ r).1:=by
    rintro(q | ⟨j,q1,q2⟩)
    ·rcases hC.mine r hlv with m | m
     ·have:=cx.lt _ q; omega
     ·exact hB' m
    ·obtain⟨q3,q4⟩:=hrl j q1;exact q4 (hC.inj j r q3 hlv q2)
   have g6:w'.heap[(ρ r).1]?=some (.cells p.toArray T (0,0)):=(hag.2 _ (hC.lt hlv) hnL).trans g1;refine⟨(ρ r).1,0,v,rfl,p,g3,zV g4 hp ⟨hag.1,fun b hb hn=>hag.2 b hb fun q=>hn ?_⟩,fun j c hj=>?_⟩
   ·rcases q with q | ⟨j,q1,q2⟩
    ·exact .inl q
    ·exact .inr ⟨j,(hrl j q1).1,q2⟩
   ·rw[Nat.zero_add,cell_of_row w' _ _ _ T _ g6,List.getElem?_toArray];exact hj
  ·cases q
 ·rintro k b (q | q) hb'
  ·subst q; rw[k1] at hb'; cases hb'
  ·subst q; rw[k2] at hb'; cases hb'
 ·intro i hi;by_cases e:i=r
  ·rw[e,k2]; simp
  ·rw[k3 _ (by simp) (by simpa using e)]; exact hi
end
end Vc
end Go.Proofs.YtjmbkipbmbnhjaaGreat
