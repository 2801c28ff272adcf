/-
  
-/
import Derived.Test.YtbaihklbefhgdaaGreatSC33
import Derived.Test.YtbaihklbefhgdaaGreatSC32
import Derived.Test.YtbaihklbefhgdaaGreatSC35
import Derived.Lib.ConvBytes
import Derived.Laws.IdiomStrings
set_option linter.unusedVariables false
set_option linter.unusedSimpArgs false
set_option linter.unusedSectionVars false
namespace Go.Proofs.YtbaihklbefhgdaaGreat
open Go.RowKit
open Go.Lib (hid)
open Dg Zn
namespace Vc
section
variable {P:Program} {cx:Cx Dm} {n:Nat} {σ:St Dm} {o:Oper} {d t:Nat} {x y j:Operand} {T T':TypeId}
/-! Texts. -/
theorem xH {ts:Array TypeId} {k:IntKind} {a b c:Int} (hc:(if a<b then b else a)=c) (ho:o.op=.call ⟨.builtin .max,#[x,y],ts⟩:=by exact rfl) (hd:o.dst=some d:=by exact rfl) (hn:d<n:=by exact bd) (hx:opd σ x=.av (.one (.v (.int k a))):=by exact rfl) (hy:opd σ y=.av (.one (.v (.int k b))):=by exact rfl) :
  aN P cx n σ o (bH x++bH y) [(.s d,.av (.one (.v (.int k c))))]:=by
 refine fE hd hn rfl fun σ' ρ a w h hk=>⟨_,?_,rfl⟩
 have e1:=h.opd ((cR fun q hq=>hk q (by simp[hq])).trans hx);have e2:=h.opd ((cR fun q hq=>hk q (by simp[hq])).trans hy);have e1:a.eval x=_:=e1;have e2:a.eval y=_:=e2;simp only[execOp,ho,resolve,invoke,builtin,Sem.run_bind,Sem.run_pure,Result.andThen_ok];rw[show (#[x,y]:Array Operand).map a.eval=#[a.eval x,a.eval y] by simp,e1,e2];rw[run_max_int2,hc];rfl
theorem aE5 {ts:Array TypeId} {k:IntKind} {a b c:Int} (hc:(if b<a then b else a)=c) (ho:o.op=.call ⟨.builtin .min,#[x,y],ts⟩) (hd:o.dst=some d) (hn:d<n) (hx:opd σ x=.av (.one (.v (.int k a)))) (hy:opd σ y=.av (.one (.v (.int k b)))) :
  aN P cx n σ o (bH x++bH y) [(.s d,.av (.one (.v (.int k c))))]:=by
 refine fE hd hn rfl fun σ' ρ a w h hk=>⟨_,?_,rfl⟩
 have e1:=h.opd ((cR fun q hq=>hk q (by simp[hq])).trans hx);have e2:=h.opd ((cR fun q hq=>hk q (by simp[hq])).trans hy);have e1:a.eval x=_:=e1;have e2:a.eval y=_:=e2;simp only[execOp,ho,resolve,invoke,builtin,Sem.run_bind,Sem.run_pure,Result.andThen_ok];rw[show (#[x,y]:Array Operand).map a.eval=#[a.eval x,a.eval y] by simp,e1,e2];rw[run_min_int2,hc];rfl
end
/-! Types of this program. -/
theorem qW:Tryz.prog.underlying 22=some (.slice 3):=by kernel_rfl
theorem aA4:(Tryz.prog.info? 3).map (fun i=>(i.size,i.zero))=some (1,some (.int .i64 0)):=by kernel_rfl
theorem aFt:(Tryz.prog.info? 3).map (·.size)=some 1:=by kernel_rfl
end Vc
end Go.Proofs.YtbaihklbefhgdaaGreat

namespace Go.Proofs.YtbaihklbefhgdaaGreat
open Go.RowKit
open Dg Zn
namespace Vc
section
variable {D:Type} [bO D] {P:Program} {cx:Cx D} {n:Nat} {σ:St D} {o:Oper}
theorem aTa {d r:Nat} {ty:TypeId} {z:Value} {k:Option Nat} (hz:(P.info? ty).map (·.zero)=some (some z)) (hk:(SA.v z:SA D).kind=some k) (ho:o.op=.alloc ty) (hd:o.dst=some d) (hn:d<n) (hr:σ (.b r)=.no) (hkp:oW (σ KP)=true) (hrK:Nat.beq r 1000000=false) :
  aN P cx n σ o [] [(.s d,.av (.one (.ptr r 0))),(.b r,.row ty k [.v z]),(KP,.np (r::bR (σ KP)))]:=by
 intro σ' a w Q ⟨ρ,h⟩ h1 h2 K hK;have hKP:=h2 KP (by simp[keys]);have hrK1:r≠1000000:=fun e=>by subst e; cases hrK
 obtain⟨cs,hcs⟩:=mG (L:=fun _=>False) (ρ:=ρ) (w:=w) hk (v:=z) rfl;have hzr:(zeroValue ty).run P w=.ok z w:=by
  cases hq:P.info? ty with
  | none=>simp[hq] at hz
  | some inf =>
   simp only[hq,Option.map_some,Option.some.injEq] at hz;simp[zeroValue,typeInfo,hq,hz]
 have hrun:(execOp a.eval o).run P w=.ok (.value (.pointer (some ⟨w.heap.size,0,none⟩))) (w.alloc (.cells cs.toArray ty)):=by
  rw[<- hcs.cells];simp only[execOp,ho,Sem.run_bind,Instr.alloc,hzr,newVar,newRow,run_newObj_alloc,Sem.run_pure,Result.andThen_ok]
 unfold Oper.wp;rw[hrun,Oper.upon_value,hd];have hk:=h.kp (q:=.np (r::bR (σ KP))) (by rw[hKP]; exact hkp) rfl (fun _=>by simp) (fun i T k l _ hi q=>hi (by rw[hKP] at q; exact List.mem_cons_of_mem _ q)) (fun i T ch _ hi=>.inl fun q=>hi (by rw[hKP] at q; exact List.mem_cons_of_mem _ q));have hr0:σ' (.b r)=.no:=(h2 (.b r) (by simp[keys])).trans hr;have hKr:Key.b r≠KP:=by simpa[KP] using hrK1
 obtain⟨σ1,hσ1⟩:∃ σ1,σ1=upd σ' [(KP,.np (r::bR (σ KP)))]:=⟨_,rfl⟩
 rw[<- hσ1] at hk;have hk1:σ1 (.b r)=.no:=by rw[hσ1,mM hKr]; exact hr0
 have hkK:σ1 KP=.np (r::bR (σ KP)):=by rw[hσ1]; exact kM
 have hnew:=hk.new (d:=d) (i:=r) (g:=w.heap.size) (c:=1) (av:=.one (.ptr r 0)) (x:=.row ty k [.v z]) (v:=.pointer (some ⟨w.heap.size,0,none⟩)) ((Below.refl _ _).alloc (Nat.le_refl _) (.cells cs.toArray ty)) hn hk1 hrK1 (by simp) (Nat.le_refl _) (fun ρ' hρ=>by show _=_; rw[hρ]) (fun b hb=>by simpa[AV.ptrs,SA.ptrs] using hb)
  (fun T ch e=>by cases e) (fun T1 k1 l1 e=>by
   injection e with e1 e2 e3;subst e1; subst e2; subst e3;refine⟨⟨Nat.le_refl _,by decide,rfl⟩,fun _=>⟨cs,[],by rw[List.append_nil]; exact uN (heap_alloc_new w _),⟨cs,[],z,by simp,hcs,rfl,rfl⟩,by rw[List.append_nil,hcs.length,Nat.one_mul],fun q=>absurd (by rw[hkK]; exact List.mem_cons_self) q⟩⟩) (by intro b hb; cases hb) (fun _ _ _ _ _ q=>q)
 have e3:upd σ1 [(.s d,.av (.one (.ptr r 0))),(.b r,.row ty k [.v z])]=upd σ' [(.s d,.av (.one (.ptr r 0))),(.b r,.row ty k [.v z]),(KP,.np (r::bR (σ KP)))]:=by
  rw[hσ1];rfl
 rw[e3] at hnew;exact hK _ _ hnew
end
section
variable {P:Program} {cx:Cx Dm} {n:Nat}
theorem aSa {c:Code} {K:Exit->Sg Dm->Prop} {r t:Nat} {T:TypeId} {k:Option Nat} {s:SA Dm} {l0:Sg Dm} (hB:∀ b,¬ cx.Bw b) (hr:aF .no l0 (.b r)=.row T k [s]) (ht:aF .no l0 (.s t)=.av (.one (.ptr r 0))) (ht':Nat.blt t n=true) (hrK:Nat.beq r 1000000=false)
  (h:CV P cx n c ((.s t,.av (.one (.d (Dm.gen (pG k s)))))::(.b r,.dead)::l0) K):CV P cx n c l0 K:=by
 have ht'':t<n:=by rwa[Nat.blt_eq] at ht'
 refine⟨fun a w ⟨ρ,hC⟩=>h.run a w ?_⟩;have hv:∀ w'',Agree (aT cx (upd (aF .no l0) [(.s t,.av (.one (.d (Dm.gen (pG k s))))),(.b r,.dead)]) ρ) w w''->bO.dat (Dm.gen (pG k s)) w'' (a.tmps.getD t undef):=by
  intro w'' hag;have e1:a.tmps.getD t undef=.pointer (some ⟨(ρ r).1,0,none⟩):=hC.slt t _ ht;have hc:0<(ρ r).2:=by have:=(hC.row r T k [s] hr).1.1; simp only[List.length_cons,List.length_nil] at this; omega
  obtain⟨cs,sp,q1,q2⟩:=hC.stays hr hB hag hc;obtain⟨p,r',v,e2,e3,e4,e5⟩:=q2;have e6:r'=[]:=e5;rw[e1];refine⟨(ρ r).1,0,v,rfl,p,e3,e4,fun j u hj=>?_⟩;rw[q1.cell,Nat.zero_add,e2,e6,List.append_nil,List.getElem?_append_left (List.getElem?_eq_some_iff.1 hj).1];exact hj
 have:=hC.froze (d:=t) (G:=Dm.gen (pG k s)) hr ht'' (fun e=>by subst e; cases hrK) (Below.refl _ _) hv;have e:a.put (some t) (a.tmps.getD t undef)=a:=by
  cases a with
  | mk tmps defers =>
   simp only[Act.put];congr 1;apply Array.ext (by simp);intro i h1 h2;rw[Array.getElem_setIfInBounds];split
   ·rename_i h3; subst h3; rw[Array.getD_eq_getD_getElem?,Array.getElem?_eq_getElem h2]; rfl
   ·rfl
 rw[e,fZ] at this;exact⟨ρ,this⟩
end
theorem aUh:(Tryz.prog.info? 3).map (·.zero)=some (some (.int .i64 0)):=by kernel_rfl
end Vc
end Go.Proofs.YtbaihklbefhgdaaGreat

namespace Go.Proofs.YtbaihklbefhgdaaGreat
open Go.RowKit
open Go.Lib (hid)
open Dg Zn
namespace Vc
set_option linter.unusedSectionVars false
section
variable {D:Type} [bO D]
def SA.rat (ρ:aR) (w:World):SA D->Value->Prop
 | .v x,y=>y=x
 | .d x,y=>bO.dat x w y
 | .ptr b o,y=>y=.pointer (some ⟨(ρ b).1,o,none⟩)
 | .sl b n,y=>∃ a,y=.slice a n (ρ b).2/\(0<(ρ b).2->a=some ⟨(ρ b).1,0,none⟩)
 | .ar b n,y=>y=.slice (some ⟨(ρ b).1,0,none⟩) n n
 | .lk x,y=>x.is ρ w y
theorem aT8 {L:Nat->Prop} {ρ:aR} {w w':World} {s:SA D} {y:Value} (h:s.is L ρ w y) (hw:Agree L w w'):s.rat ρ w' y:=by
 cases s with
 | v x=>exact h
 | d x=>exact h w' hw
 | ptr b o=>exact h
 | sl b n=>exact h
 | ar b n=>exact h
 | lk x=>exact h w' hw
theorem aT7 {L:Nat->Prop} {ρ:aR} {w:World} {s:SA D} {y:Value} (h:∀ w',Agree L w w'->s.rat ρ w' y):s.is L ρ w y:=by
 cases s with
 | v x=>exact h w (Agree.refl _ _)
 | d x=>exact h
 | ptr b o=>exact h w (Agree.refl _ _)
 | sl b n=>exact h w (Agree.refl _ _)
 | ar b n=>exact h w (Agree.refl _ _)
 | lk x=>exact h
theorem aQy {ρ ρ':aR} {w:World} {s:SA D} {y:Value} (h:s.rat ρ w y) (hr:∀ b∈s.ptrs,ρ' b=ρ b):s.rat ρ' w y:=by
 cases s with
 | v x=>exact h
 | d x=>exact h
 | ptr b o=>show y=_; rw[hr b (by simp[SA.ptrs])]; exact h
 | sl b n=>show ∃ a,_; rw[hr b (by simp[SA.ptrs])]; exact h
 | ar b n=>show y=_; rw[hr b (by simp[SA.ptrs])]; exact h
 | lk x=>exact x.cong ρ ρ' w y hr h
def rJ (ρ:aR) (w:World):List (SA D)->List Value->Prop
 | [],[]=>True
 | s::l,v::m=>s.rat ρ w v/\rJ ρ w l m
 | _,_=>False
theorem rJ.cong {ρ ρ':aR} {w:World}:∀ {l:List (SA D)} {m:List Value},rJ ρ w l m->(∀ b∈gK l,ρ' b=ρ b)->rJ ρ' w l m
 | [],[],_,_=>trivial
 | s::l,v::m,h,hr=>⟨aQy h.1 fun b hb=>hr b (by simp only[gK,List.flatMap_cons,List.mem_append]; exact .inl hb),rJ.cong h.2 fun b hb=>hr b (by simp only[gK,List.flatMap_cons,List.mem_append]; exact .inr hb)⟩
theorem aH5 {L:Nat->Prop} {ρ:aR} {w w':World}:∀ {l:List (SA D)} {m:List Value},dR L ρ w l m->Agree L w w'->rJ ρ w' l m
 | [],[],_,_=>trivial
 | _::_,_::_,h,hw=>⟨aT8 h.1 hw,aH5 h.2 hw⟩
theorem aIl {L:Nat->Prop} {ρ:aR} {w:World}:∀ {l:List (SA D)} {m:List Value},(∀ w',Agree L w w'->rJ ρ w' l m)->dR L ρ w l m
 | [],[],_=>trivial
 | [],_::_,h=>h w (Agree.refl _ _)
 | _::_,[],h=>h w (Agree.refl _ _)
 | s::l,v::m,h=>⟨aT7 fun w' hw=>(h w' hw).1,aIl fun w' hw=>(h w' hw).2⟩
theorem aJh {L:Nat->Prop} {ρ:aR} {w:World}:∀ {ss ss':List (SA D)} {vs vs':List Value},dR L ρ w ss vs->dR L ρ w ss' vs'->dR L ρ w (ss++ss') (vs++vs')
 | [],_,[],_,_,h=>h
 | _::_,_,_::_,_,h,h'=>⟨h.1,aJh h.2 h'⟩
def fnR (f:FuncId) (caps:List (SA D)) (hne:gK caps≠[]:=by exact List.cons_ne_nil _ _):RG where
 is:=fun ρ w y=>∃ vs:List Value,y=.func (.func f) #[] vs.toArray/\rJ ρ w caps vs
 pts:=gK caps
 ne:=hne
 cong:=fun _ _ _ _ h ⟨vs,e,k⟩=>⟨vs,e,k.cong h⟩
 cell:=true
 one:=fun _ _ _ _ ⟨_,e,_⟩=>by subst e; exact⟨rfl,rfl⟩
def aO1 (ks:List Nat) (ρ0:aR) (hne:ks≠[]:=by exact List.cons_ne_nil _ _):RG where
 is:=fun ρ _ y=>y=undef/\∀ b∈ks,ρ b=ρ0 b
 pts:=ks
 ne:=hne
 cong:=fun _ _ _ _ h ⟨e,k⟩=>⟨e,fun b hb=>(h b hb).trans (k b hb)⟩
 cell:=false
 one:=fun h=>nomatch h
variable {P:Program} {cx:Cx D} {n:Nat} {σ:St D} {o:Oper} {d t:Nat}
def vK (σ:St D):List Operand->List (SA D)->Prop
 | [],[]=>True
 | x::xs,s::ss=>opd σ x=.av (.one s)/\vK σ xs ss
 | _,_=>False
theorem vK.is {σ':St D} {ρ:aR} {a:Act} {w:World} (h:Conc cx n ρ σ' a w):∀ {xs:List Operand} {ss:List (SA D)},vK σ xs ss->(∀ k∈xs.flatMap bH,σ' k=σ k)->dR (aT cx σ' ρ) ρ w ss (xs.map a.eval)/\∀ b∈gK ss,σ' (.b b)≠.no
 | [],[],_,_=>⟨trivial,fun b hb=>by cases hb⟩
 | x::xs,s::ss,⟨h1,h3⟩,hk=>by
  have hx:=(cR fun k hk'=>hk k (by simp only[List.flatMap_cons,List.mem_append]; exact .inl hk')).trans h1;have ih:=vK.is h h3 fun k hk'=>hk k (by simp only[List.flatMap_cons,List.mem_append]; exact .inr hk');refine⟨⟨h.opd hx,ih.1⟩,fun b hb=>?_⟩;simp only[gK,List.flatMap_cons,List.mem_append] at hb;rcases hb with hb | hb
  ·exact h.opd_own hx b hb
  ·exact ih.2 b hb
theorem aVh {f:FuncId} {caps:List Operand} {ss:List (SA D)} {hne:gK ss≠[]} (ho:o.op=.makeFunc (.func f) #[] caps.toArray) (hd:o.dst=some d) (hn:d<n) (hargs:vK σ caps ss):aN P cx n σ o (caps.flatMap bH) [(.s d,.av (.one (.lk (fnR f ss hne))))]:=by
 intro σ' a w Q ⟨ρ,h⟩ h1 _ K hK;obtain⟨hall,hown⟩:=hargs.is h h1;have hr:(execOp a.eval o).run P w=.ok (.value (.func (.func f) #[] (caps.map a.eval).toArray)) w:=by simp[execOp,ho,Instr.makeFunc]
 unfold Oper.wp;rw[hr,Oper.upon_value,hd];exact hK _ _ ⟨ρ,h.put (Below.refl _ _) hn (fun w' hag=>⟨_,rfl,aH5 hall hag⟩) hown⟩
theorem aI7 {i:Nat} {ty T:TypeId} {y:Operand} {k:Option Nat} {s s0:SA D} (ho:o.op=.store ty (.tmp t) y) (hd:o.dst=none) (ht:σ (.s t)=.av (.one (.ptr i 0))) (hb:σ (.b i)=.blk T [(k,s0)])
  (hy:opd σ y=.av (.one s)) (hk:s.kind=some k) (hsz:(P.info? ty).map (·.size)=some (k.getD 1)) (hp:s.plain=true) (hiK:Nat.beq i 1000000=false) :
  aN P cx n σ o (.s t::.b i::bH y) [(.b i,.blk T [(k,s)])]:=by
 intro σ' a w Q ⟨ρ,h⟩ h1 _ K hK;have ht':=(h1 (.s t) (by simp)).trans ht;have hb':=(h1 (.b i) (by simp)).trans hb;have hy':=(cR (σ':=σ') (x:=y) fun q hq=>h1 q (by simp[hq])).trans hy;obtain⟨cs,hcs,hcc⟩:=h.blk i T _ hb';obtain⟨pre,p,post,v,rfl,hpre,k3,k4,k5,k6⟩:=hcc.at (o:=0) (c:=(k,s0)) rfl;obtain rfl:=List.eq_nil_of_length_eq_zero hpre;have hs:=h.opd hy';obtain⟨p',hp'⟩:=mG hk hs;have hlen:p'.length=p.length:=by rw[hp'.length,k3.length]
 have hev:a.eval (.tmp t)=.pointer (some ⟨(ρ i).1,0,none⟩):=h.slt t _ ht';have hr:(execOp a.eval o).run P w=.ok .skip (w.setCells (ρ i).1 0 p'):=by
  have hst:=run_storeCells_cells (P:=P) (ρ i).1 0 p' 0 w (fun j hj=>by
    have:=sY (pre:=[]) hcs j p[j] (List.getElem?_eq_getElem (by omega));simp only[List.length_nil,Nat.zero_add] at this;rw[Nat.add_zero,Nat.zero_add,this]; rfl) (fun j hj=>by
    simp[World.frozen?,hcs]) hp'.one
  rw[Nat.add_zero] at hst;cases hq:P.info? ty with
  | none=>simp[hq] at hsz
  | some inf =>
   have e1:inf.size=k.getD 1:=by simpa[hq] using hsz
   have e2:(a.eval y).cells.size=inf.size:=by rw[hp'.cells,e1,<- hp'.length]; simp
   simp[execOp,ho,hev,Instr.storeAt,Instr.sureAddr,storeVar,sizeOf,typeInfo,hq,hp'.cells,hst];rw[show p'.length=inf.size by rw[e1,hp'.length]]
 unfold Oper.wp;rw[hr,Oper.upon_skip,hd];refine hK _ _ ⟨ρ,h.sto (jJ hb') (by simp) (jJ kM) (fun e=>by subst e; cases hiK) (os_setCells ..) (nU ..) (nV ..) (lC ..) (fun j hj=>mD _ _ _ _ j hj) ?_ (fun T k l e=>by cases e) ?_⟩
 ·intro T1 c1 e;injection e with e1 e2;subst e1; subst e2;have:=oY (ρ i).1 T p' p [] post w hlen hcs;exact⟨by simp[gV,hp],_,this,k6 (k,s) _ p' rfl hp' hs⟩
 ·intro b hb2;have hb3:b∈s.ptrs:=by simpa[XV.ptrs,kD] using hb2
  exact h.opd_own hy' b hb3
end
end Vc
end Go.Proofs.YtbaihklbefhgdaaGreat

namespace Go.Proofs.YtbaihklbefhgdaaGreat
open Go.RowKit
open Go.Lib (hid)
open Dg Zn
namespace Vc
set_option linter.unusedSectionVars false
section
variable {D:Type} [bO D]
def dS (L:Nat->Prop) (ρ:aR) (w:World) (pl:Bool):Sg D->Prop
 | []=>True
 | (.b i,.blk T ch)::r=>((pl=true->gV ch=true)/\∃ cs:List Value,w.heap[(ρ i).1]?=some (.cells cs.toArray T (0,0))/\bZ L ρ w ch cs)/\dS L ρ w pl r
 | (.b i,.row T k l)::r=>rI L ρ w (pl=true) i T k l/\dS L ρ w pl r
 | (.b _,.dead)::r=>dS L ρ w pl r
 | _::_=>False
def bK:Sg D->List Nat
 | []=>[]
 | (.b i,_)::r=>i::bK r
 | _::r=>bK r
theorem mR {i:Nat}:∀ {bl:Sg D},i∈bK bl ↔ .b i∈keys bl
 | []=>by simp[bK,keys]
 | (.b j,x)::r=>by
  have ih:=mR (i:=i) (bl:=r);simp only[bK,List.mem_cons,ih];simp[keys]
 | (.s t,x)::r=>by
  have ih:=mR (i:=i) (bl:=r);simp only[bK,ih];simp[keys]
theorem tW {bl:Sg D} {k:Key} (h:k ∉ keys bl):aF .no bl k=.no:=by
 induction bl with
 | nil=>rfl
 | cons p r ih =>
  obtain⟨q,x⟩:=p;simp only[keys,List.map_cons,List.mem_cons,not_or] at h;show (bif Key.beq q k then x else aF .no r k)=_;rw[iG (fun e=>h.1 e.symm)];exact ih h.2
theorem dS.no {L:Nat->Prop} {ρ:aR} {w:World} {pl:Bool} {i:Nat}:∀ {bl:Sg D},dS L ρ w pl bl->i∈bK bl->aF .no bl (.b i)≠.no
 | (.b j,x)::r,h,hi=>by
  by_cases e:j=i
  ·subst e;show (bif Key.beq (.b j) (.b j) then x else _)≠_;rw[iE];cases x<;>first | exact h.elim | exact fun q=>by cases q
  ·have hr:dS L ρ w pl r:=by cases x<;>first | exact h.elim | exact h.2 | exact h
   show (bif Key.beq (.b j) (.b i) then x else _)≠_;rw[iG (by simpa using e)];refine dS.no hr ?_;rcases List.mem_cons.1 hi with q | q
   ·exact absurd q.symm e
   ·exact q
 | (.s _,x)::r,h,_=>by cases x<;>exact h.elim
theorem dS.blk {L:Nat->Prop} {ρ:aR} {w:World} {pl:Bool} {i:Nat} {T:TypeId} {ch:List (Ch D)}:∀ {bl:Sg D},dS L ρ w pl bl->aF .no bl (.b i)=.blk T ch->(pl=true->gV ch=true)/\∃ cs:List Value,w.heap[(ρ i).1]?=some (.cells cs.toArray T (0,0))/\bZ L ρ w ch cs
 | (.b j,x)::r,h,hi=>by
  by_cases e:j=i
  ·subst e;have hi:(bif Key.beq (.b j) (.b j) then x else _)=_:=hi;rw[iE] at hi;have hi:x=_:=hi;subst hi;exact h.1
  ·have hr:dS L ρ w pl r:=by cases x<;>first | exact h.elim | exact h.2 | exact h
   have hi:(bif Key.beq (.b j) (.b i) then x else _)=_:=hi;rw[iG (by simpa using e)] at hi;exact dS.blk hr hi
 | (.s _,x)::r,h,_=>by cases x<;>exact h.elim
theorem dS.row {L:Nat->Prop} {ρ:aR} {w:World} {pl:Bool} {i:Nat} {T:TypeId} {k:Option Nat} {l:List (SA D)}:∀ {bl:Sg D},dS L ρ w pl bl->aF .no bl (.b i)=.row T k l->rI L ρ w (pl=true) i T k l
 | (.b j,x)::r,h,hi=>by
  by_cases e:j=i
  ·subst e;have hi:(bif Key.beq (.b j) (.b j) then x else _)=_:=hi;rw[iE] at hi;have hi:x=_:=hi;subst hi;exact h.1
  ·have hr:dS L ρ w pl r:=by cases x<;>first | exact h.elim | exact h.2 | exact h
   have hi:(bif Key.beq (.b j) (.b i) then x else _)=_:=hi;rw[iG (by simpa using e)] at hi;exact dS.row hr hi
 | (.s _,x)::r,h,_=>by cases x<;>exact h.elim
theorem kB {bl:Sg D} {ρ:aR} {i:Nat} (h:live (aF .no bl) ρ i):i∈bK bl:=by
 rw[mR];exact Classical.byContradiction fun hn=>xJ h (tW hn)
def aGs (run:Array Value->World->(Ending->World->Prop)->Prop) (args:List (SA D)) (bl:Sg D) (r:AV D) (bl':Sg D) (nw:List Nat) (pl:Bool) (L:Nat->Prop) (ρ:aR) (w:World) (vs:List Value):Prop :=
 (∀ b,L b->b<w.heap.size)->(∀ w',Kept w.heap.size (fun b=>∃ i,live (aF .no bl) ρ i/\(ρ i).1=b) w w'->bO.W D w') ->
  dR L ρ w args vs->dS L ρ w pl bl->(∀ i,live (aF .no bl) ρ i->L (ρ i).1)->(∀ i j,live (aF .no bl) ρ i->live (aF .no bl) ρ j->(ρ i).1=(ρ j).1->i=j) ->
  run vs.toArray w fun e w'=>∃ v ρ',e=.returned v/\(∀ i,i ∉ nw->ρ' i=ρ i)/\Kept w.heap.size (fun b=>∃ i,live (aF .no bl) ρ i/\(ρ i).1=b) w w' /\
   r.is (fun b=>L b\/∃ i,live (aF .no bl') ρ' i/\(ρ' i).1=b) ρ' w' v/\dS (fun b=>L b\/∃ i,live (aF .no bl') ρ' i/\(ρ' i).1=b) ρ' w' pl bl' /\
   (∀ i,live (aF .no bl') ρ' i->w.heap.size<=(ρ' i).1\/∃ j,live (aF .no bl) ρ j/\(ρ j).1=(ρ' i).1)/\(∀ i j,live (aF .no bl') ρ' i->live (aF .no bl') ρ' j->(ρ' i).1=(ρ' j).1->i=j)
def aBs (P:Program) (f:FuncId) (args:List (SA D)) (bl:Sg D) (r:AV D) (bl':Sg D) (nw:List Nat) (pl:Bool) (L:Nat->Prop) (ρ:aR) (w:World) (vs:List Value):Prop :=
 aGs (Calls P f) args bl r bl' nw pl L ρ w vs
def yL (P:Program) (f:FuncId) (args:List (SA D)) (bl:Sg D) (r:AV D) (bl':Sg D) (nw:List Nat) (pl:Bool:=true):Prop :=
 ∀ (L:Nat->Prop) (ρ:aR) (w:World) (vs:List Value),gO L w->aBs P f args bl r bl' nw pl L ρ w vs
variable {P:Program} {cx:Cx D} {n:Nat} {σ:St D} {o:Oper} {d t:Nat}
def kP (σ:St D):Sg D->Prop
 | []=>True
 | (k,x)::r=>σ k=x/\kP σ r
theorem kP.look {i:Nat}:∀ {bl:Sg D},kP σ bl->i∈bK bl->σ (.b i)=aF .no bl (.b i)
 | (.b j,x)::r,h,hi=>by
  by_cases e:j=i
  ·subst e;show _=(bif Key.beq (.b j) (.b j) then x else _);rw[iE];exact h.1
  ·show _=(bif Key.beq (.b j) (.b i) then x else _);rw[iG (by simpa using e)];refine kP.look h.2 ?_;rcases List.mem_cons.1 hi with q | q
   ·exact absurd q.symm e
   ·exact q
 | (.s _,x)::r,h,hi=>kP.look (bl:=r) h.2 hi
theorem kP.same {σ':St D}:∀ {bl:Sg D},kP σ bl->(∀ k∈keys bl,σ' k=σ k)->kP σ' bl
 | [],_,_=>trivial
 | (k,x)::r,h,hk=>⟨(hk k (by simp[keys])).trans h.1,kP.same h.2 fun q hq=>hk q (by simp only[keys,List.map_cons,List.mem_cons]; exact .inr hq)⟩
def lW (σ:St D):List Nat->Prop
 | []=>True
 | i::r=>σ (.b i)=.no/\lW σ r
theorem lW.at {i:Nat}:∀ {nw:List Nat},lW σ nw->i∈nw->σ (.b i)=.no
 | j::r,h,hi=>by
  rcases List.mem_cons.1 hi with q | q
  ·subst q; exact h.1
  ·exact lW.at h.2 q
def kE (bl:Sg D) (r:AV D) (bl':Sg D) (nw:List Nat):Bool :=
 ((bK bl).all fun i=>fK i (bK bl'))&&((bK bl').all fun i=>(fK i (bK bl)||fK i nw) && !Nat.beq i 1000000)&&(nw.all fun i=>fK i (bK bl'))&&(bl'.all fun p=>p.2.ptrs.all fun b=>fK b (bK bl'))&&(r.ptrs.all fun b=>fK b (bK bl'))
theorem aDl {bl:Sg D} {ks:List Nat} (h:(bl.all fun p=>p.2.ptrs.all fun b=>fK b ks)=true) {k:Key} {b:Nat} (hb:b∈(aF .no bl k).ptrs):b∈ks:=by
 by_cases e:aF .no bl k=.no
 ·rw[e] at hb; cases hb
 ·have:=List.all_eq_true.1 (List.all_eq_true.1 h _ (lJ rfl e)) b hb;exact eU.1 this
theorem noK (σ:St D) (bl':Sg D) (i:Nat) {x:XV D} (hi:i∈bK bl'):upd σ ((.s d,x)::bl') (.b i)=aF .no bl' (.b i):=by
 show (bif Key.beq (.s d) (.b i) then x else upd σ bl' (.b i))=_;rw[iG (by simp),cond_false];exact(upd_same (σ:=σ) (τ:=fun _=>.no) (mR.1 hi)).trans (by
  have:=fZ (X:=XV D) .no [] bl';rw[List.append_nil] at this;exact congrFun this _)
theorem bAk (σ:St D) (bl':Sg D) (i:Nat) {x:XV D} (hi:i ∉ bK bl'):upd σ ((.s d,x)::bl') (.b i)=σ (.b i) :=
 lI (by rw[mR] at hi; simpa[keys] using hi)
theorem aCn {Goal:Prop} {run:Array Value->World->(Ending->World->Prop)->Prop} {pl:Bool} {ρ:aR} {a:Act} {w:World} {sas:List (SA D)} {vs:List Value} {bl bl':Sg D} {nw:List Nat} {r:AV D} {K:Act->World->Prop} (h:Conc cx n ρ σ a w) (hcon:aGs run sas bl r bl' nw pl (aT cx σ ρ) ρ w vs)
  (hwf:∀ w',Kept cx.w0.heap.size cx.Bw cx.w0 w'->bO.W D w') (hrun:∀ R:Ending->World->Prop,run vs.toArray w R->(∀ e w',R e w'->∃ v,e=.returned v/\K (a.put (some d) v) w')->Goal) (hall:dR (aT cx σ ρ) ρ w sas vs) (hn:d<n) (hbl:kP σ bl) (hnw:lW σ nw)
  (hkE:kE bl r bl' nw=true) (hblk:∀ k∈keys bl,∃ i,k=.b i) (hpl:(pl=true->∀ i∈bK bl,i ∉ bR (σ KP))/\(pl=false->∀ i∈bK bl',i∈bR (σ KP))) (hb':∀ k∈keys bl',∃ i,k=.b i) (hno:∀ p∈bl,(∃ T ch,p.2=.blk T ch)\/(∃ T k l,p.2=.row T k l)\/p.2=.dead)
  (hK:∀ a' w',CC cx n (upd σ ((.s d,.av r)::bl')) a' w'->K a' w'):Goal:=by
 simp only[kE,Bool.and_eq_true] at hkE;obtain⟨⟨⟨⟨c1,c2⟩,c3⟩,c4⟩,c5⟩:=hkE;have s1:∀ i,i∈bK bl->i∈bK bl':=fun i hi=>eU.1 (List.all_eq_true.1 c1 i hi);have s2:∀ i,i∈bK bl'->(i∈bK bl\/i∈nw)/\i≠1000000:=fun i hi=>by
  have:=List.all_eq_true.1 c2 i hi;rw[Bool.and_eq_true,Bool.or_eq_true] at this;exact⟨this.1.imp eU.1 eU.1,fun e=>by subst e; exact absurd this.2 (by decide)⟩
 have s3:∀ i,i∈nw->i∈bK bl':=fun i hi=>eU.1 (List.all_eq_true.1 c3 i hi);have s5:∀ b,b∈r.ptrs->b∈bK bl':=fun b hb=>eU.1 (List.all_eq_true.1 c5 b hb);have lv:∀ i,i∈bK bl->(live σ ρ i ↔ live (aF .no bl) ρ i):=fun i hi=>fY (hbl.look hi) rfl;have lv2:∀ i,live (aF .no bl) ρ i->live σ ρ i:=fun i hi=>(lv i (kB hi)).2 hi;have hBk:dS (aT cx σ ρ) ρ w pl bl:=by
  have key:∀ m:Sg D,kP σ m->(∀ k∈keys m,∃ i,k=.b i)->(∀ i∈bK m,pl=true->i ∉ bR (σ KP))->(∀ p∈m,(∃ T ch,p.2=.blk T ch)\/(∃ T k l,p.2=.row T k l)\/p.2=.dead)->dS (aT cx σ ρ) ρ w pl m:=by
   intro m
   induction m with
   | nil=>intro _ _ _ _; trivial
   | cons p m ih =>
    intro q1 q2 q3 q4;obtain⟨k,x⟩:=p;obtain⟨i,rfl⟩:=q2 k (by simp[keys]);have ih':=ih q1.2 (fun k hk=>q2 k (by simp only[keys,List.map_cons,List.mem_cons]; exact .inr hk)) (fun j hj=>q3 j (List.mem_cons_of_mem _ hj)) (fun p hp=>q4 p (List.mem_cons_of_mem _ hp));have hx:σ (.b i)=x:=q1.1;rcases q4 _ List.mem_cons_self with ⟨T,ch,e⟩ | ⟨T,k,l,e⟩ | e
    ·have e:x=_:=e;subst e;exact⟨⟨fun hp=>h.pln i T ch hx (q3 i List.mem_cons_self hp),h.blk i T ch hx⟩,ih'⟩
    ·have e:x=_:=e;subst e;exact⟨(h.row i T k l hx).go (Goes.refl _ _) rfl (fun _=>rfl) (fun hp=>q3 i List.mem_cons_self hp),ih'⟩
    ·have e:x=_:=e;subst e;exact ih'
  exact key bl hbl hblk (fun i hi hp=>hpl.1 hp i hi) hno
 refine hrun _ (hcon h.lofLt (fun w' hw'=>hwf w' (h.kept.trans hw' h.kept.size fun b hb ⟨i,hi,e⟩=>?_)) hall hBk (fun i hi=>.inr ⟨i,lv2 i hi,rfl⟩) (fun i j hi hj=>h.inj i j (lv2 i hi) (lv2 j hj))) ?_
 ·rcases h.mine i (lv2 i hi) with m | m
  ·omega
  ·exact e ▸ m
 rintro e w' ⟨v,ρ',rfl,hρ,hkp,hv,hB,hm,hj⟩;refine⟨v,rfl,hK _ _ ⟨ρ',?_⟩⟩;obtain⟨σ',hσ'⟩:∃ σ',σ'=upd σ ((.s d,.av r)::bl'):=⟨_,rfl⟩
 rw[<- hσ'];have kd:σ' (.s d)=.av r:=by rw[hσ']; show (bif Key.beq (.s d) (.s d) then _ else _)=_; rw[iE]; rfl
 have kin:∀ i,i∈bK bl'->σ' (.b i)=aF .no bl' (.b i):=fun i hi=>by rw[hσ']; exact noK σ bl' i hi
 have kout:∀ i,i ∉ bK bl'->σ' (.b i)=σ (.b i):=fun i hi=>by rw[hσ']; exact bAk σ bl' i hi
 have ks:∀ q,q≠d->σ' (.s q)=σ (.s q):=fun q hq=>by
  rw[hσ'];refine lI ?_;simp only[keys,List.map_cons,List.mem_cons,not_or];refine⟨by simpa using hq,fun hm=>?_⟩;obtain⟨i,e⟩:=hb' _ hm;cases e
 have hKP:σ' KP=σ KP:=kout 1000000 fun hi=>(s2 _ hi).2 rfl;have hρo:∀ i,i ∉ bK bl'->ρ' i=ρ i:=fun i hi=>hρ i fun q=>hi (s3 i q);have lin:∀ i,i∈bK bl'->(live σ' ρ' i ↔ live (aF .no bl') ρ' i):=fun i hi=>fY (kin i hi) rfl;have lout:∀ i,i ∉ bK bl'->(live σ' ρ' i ↔ live σ ρ i):=fun i hi=>fY (kout i hi) (hρo i hi);have hL:∀ b,aT cx σ' ρ' b->aT cx σ ρ b\/∃ i,live (aF .no bl') ρ' i/\(ρ' i).1=b:=by
  rintro b (q | ⟨i,q1,q2⟩)
  ·exact .inl (.inl q)
  ·by_cases e:i∈bK bl'
   ·exact .inr ⟨i,(lin i e).1 q1,q2⟩
   ·exact .inl (.inr ⟨i,(lout i e).1 q1,by rw[<- hρo i e]; exact q2⟩)
 have gg:Goes (fun b=>aT cx σ ρ b\/∃ i,live (aF .no bl') ρ' i/\(ρ' i).1=b) w' (aT cx σ' ρ') w':=oC hL;have old:∀ i,live (aF .no bl') ρ' i->w.heap.size<=(ρ' i).1\/∃ j,j∈bK bl/\live σ ρ j/\(ρ j).1=(ρ' i).1:=by
  intro i hi;rcases hm i hi with q | ⟨j,q1,q2⟩
  ·exact .inl q
  ·exact .inr ⟨j,kB q1,lv2 j q1,q2⟩
 have hne:∀ i,i∈bK bl'->σ' (.b i)≠.no:=fun i hi=>by rw[kin i hi]; exact hB.no hi
 have hkeep:∀ i,σ (.b i)≠.no->σ' (.b i)≠.no:=by
  intro i hi;by_cases e:i∈bK bl'
  ·exact hne i e
  ·rw[kout i e]; exact hi
 refine h.stepN (fun b=>∃ i,live (aF .no bl) ρ i/\(ρ i).1=b) (fun k=>k=.s d\/∃ i,i∈bK bl'/\k=.b i) (by rw[Pu.size_put]; exact h.size) (by rw[Pu.tE]; exact h.defers) hkp.os hkp.tape hkp.output hkp.size
  (fun b hb hnM=>hkp.block b hb hnM) (fun b ⟨i,hi,e⟩=>.inl ⟨i,lv2 i hi,e⟩) ?_ (fun i hi=>hρ i fun q=>hi (hnw.at q)) (fun i hi ⟨j,hj1,hj2⟩=>.inr ⟨i,?_,rfl⟩) (fun b hb q=>?_) ?_ ?_ ?_ (fun i hi q=>by rw[hKP] at q; exact q) ?_ ?_ ?_ ?_ hkeep
 ·intro k hk;cases k with
  | s q=>exact ks q fun e=>hk (.inl (by rw[e]))
  | b i=>exact kout i fun e=>hk (.inr ⟨i,e,rfl⟩)
 ·have:j=i:=h.inj j i (lv2 j hj1) hi hj2;subst this;exact s1 _ (kB hj1)
 ·rcases hL b q with q | ⟨i,q1,q2⟩
  ·exact q
  ·rcases old i q1 with m | ⟨j,_,m2,m3⟩
   ·omega
   ·exact .inr ⟨j,m2,m3.trans q2⟩
 ·rintro i (q | ⟨i',hi',q⟩) hi
  ·cases q
  ·injection q with q;subst q;rcases old i ((lin i hi').1 hi) with m | ⟨j,_,m2,m3⟩
   ·exact .inl (Nat.le_trans h.kept.size m)
   ·rw[<- m3]; exact h.mine j m2
 ·rintro i T ch (q | ⟨i',hi',q⟩) hi
  ·cases q
  ·injection q with q;subst q;rw[kin i hi'] at hi;obtain⟨g1,cs,g2,g3⟩:=hB.blk hi;refine⟨fun hq=>g1 ?_,cs,g2,g3.go gg fun _ _=>rfl⟩;cases hpb:pl with
   | true=>rfl
   | false=>rw[hKP] at hq; exact absurd (hpl.2 hpb i hi') hq
 ·rintro i T k l (q | ⟨i',hi',q⟩) hi
  ·cases q
  ·injection q with q;subst q;rw[kin i hi'] at hi;refine(hB.row hi).go gg rfl (fun _=>rfl) fun hq=>?_;cases hpb:pl with
   | true=>rfl
   | false=>rw[hKP] at hq; exact absurd (hpl.2 hpb i hi') hq
 ·intro i j hi hj' he;by_cases e1:i∈bK bl'
  ·by_cases e2:j∈bK bl'
   ·exact hj i j ((lin i e1).1 hi) ((lin j e2).1 hj') he
   ·have lj:=(lout j e2).1 hj';rw[hρo j e2] at he;rcases old i ((lin i e1).1 hi) with m | ⟨q,m1,m2,m3⟩
    ·have:=h.lt lj;omega
    ·have:=h.inj q j m2 lj (m3.trans he);subst this;exact absurd (s1 _ m1) e2
  ·have li:=(lout i e1).1 hi;rw[hρo i e1] at he;by_cases e2:j∈bK bl'
   ·rcases old j ((lin j e2).1 hj') with m | ⟨q,m1,m2,m3⟩
    ·have:=h.lt li;omega
    ·have:=h.inj q i m2 li (m3.trans he.symm);subst this;exact absurd (s1 _ m1) e1
   ·rw[hρo j e2] at he;exact h.inj i j li ((lout j e2).1 hj') he
 ·rintro q av (e | ⟨i,_,e⟩) hq
  ·injection e with e;subst e;rw[kd] at hq;obtain rfl:=(XV.av.injEq _ _).mp hq;rw[jK hn h.size,if_pos rfl];exact hv.go gg fun _ _=>rfl
  ·cases e
 ·intro q hq;rw[jK hn h.size,if_neg (fun e=>hq (.inl (by rw[e])))]
 ·rintro k b (e | ⟨i,hi,e⟩) hb
  ·subst e;rw[kd] at hb;exact hne b (s5 b hb)
  ·subst e;rw[kin i hi] at hb;exact hne b (aDl c4 hb)
theorem aR0 {pl:Bool} {ρ:aR} {a:Act} {w:World} {f:FuncId} {sas:List (SA D)} {vs:List Value} {bl bl':Sg D} {nw:List Nat} {r:AV D} {Q:Exit->Act->World->Prop} {K:Act->World->Prop} (h:Conc cx n ρ σ a w) (hcon:aBs P f sas bl r bl' nw pl (aT cx σ ρ) ρ w vs)
  (hwf:∀ w',Kept cx.w0.heap.size cx.Bw cx.w0 w'->bO.W D w') (hrun:(execOp a.eval o).run P w=.ok (.enter f vs.toArray) w) (hall:dR (aT cx σ ρ) ρ w sas vs) (hd:o.dst=some d) (hn:d<n) (hbl:kP σ bl) (hnw:lW σ nw)
  (hkE:kE bl r bl' nw=true) (hblk:∀ k∈keys bl,∃ i,k=.b i) (hpl:(pl=true->∀ i∈bK bl,i ∉ bR (σ KP))/\(pl=false->∀ i∈bK bl',i∈bR (σ KP))) (hb':∀ k∈keys bl',∃ i,k=.b i) (hno:∀ p∈bl,(∃ T ch,p.2=.blk T ch)\/(∃ T k l,p.2=.row T k l)\/p.2=.dead)
  (hK:∀ a' w',CC cx n (upd σ ((.s d,.av r)::bl')) a' w'->K a' w'):o.wp P a w K Q:=by
 refine aCn (Goal:=o.wp P a w K Q) (run:=Calls P f) h hcon hwf (fun R hR hk=>?_) hall hn hbl hnw hkE hblk hpl hb' hno hK;unfold Oper.wp;rw[hrun,Oper.upon_enter];refine hR.mono ?_;intro e w' he;obtain⟨v,rfl,hv⟩:=hk e w' he;show K (a.put o.dst v) w';rw[hd];exact hv
def fI:Sg D->Bool
 | []=>true
 | (.b _,.blk _ _)::r=>fI r
 | (.b _,.row _ _ _)::r=>fI r
 | (.b _,.dead)::r=>fI r
 | _::_=>false
theorem kU:∀ {bl:Sg D},fI bl=true->(∀ k∈keys bl,∃ i,k=.b i)/\∀ p∈bl,(∃ T ch,p.2=.blk T ch)\/(∃ T k l,p.2=.row T k l)\/p.2=.dead
 | [],_=>⟨fun k hk=>by simp[keys] at hk,fun p hp=>by cases hp⟩
 | (.b i,x)::r,h=>by
  have hr:fI r=true/\((∃ T ch,x=.blk T ch)\/(∃ T k l,x=.row T k l)\/x=.dead):=by
   cases x with
   | blk T ch=>exact⟨h,.inl ⟨_,_,rfl⟩⟩
   | row T k l=>exact⟨h,.inr (.inl ⟨_,_,_,rfl⟩)⟩
   | dead=>exact⟨h,.inr (.inr rfl)⟩
   | no=>cases h
   | av x=>cases h
   | np l=>cases h
  obtain⟨h1,h2⟩:=kU hr.1;refine⟨fun k hk=>?_,fun p hp=>?_⟩
  ·rcases List.mem_cons.1 hk with q | q
   ·exact⟨i,q⟩
   ·exact h1 k q
  ·rcases List.mem_cons.1 hp with q | q
   ·subst q; exact hr.2
   ·exact h2 p q
 | (.s _,x)::r,h=>by cases x<;>cases h
def npE (pl:Bool) (bl bl':Sg D) (q:XV D):Bool:=bif pl then (bK bl).all fun i => !fK i (bR q) else (bK bl').all fun i=>fK i (bR q)
theorem aN0 {pl:Bool} {bl bl':Sg D} {q:XV D} (h:npE pl bl bl' q=true):(pl=true->∀ i∈bK bl,i ∉ bR q)/\(pl=false->∀ i∈bK bl',i∈bR q):=by
 cases pl with
 | true =>
  refine⟨fun _ i hi hm=>?_,fun q=>(by cases q)⟩;have:=List.all_eq_true.1 h i hi;rw[eU.2 hm] at this;cases this
 | false=>exact⟨fun q=>(by cases q),fun _ i hi=>eU.1 (List.all_eq_true.1 h i hi)⟩
theorem aI9 {pl : Bool} {f : FuncId} {fn : Func} {caps : List (SA D)} {hne : gK caps ≠ []} {args : Array Operand} {tys : Array TypeId} {sas : List (SA D)} {r : AV D} {bl bl' : Sg D} {nw : List Nat} (hcon : yL P f (sas ++ caps) bl r bl' nw pl) (hfr : cx.fr = false) (hKP : bR (σ KP) = []) (hwf : ∀ w', Kept cx.w0.heap.size cx.Bw cx.w0 w' -> bO.W D w') (hf : P.funcs[f]? = some fn) (hname : (fn.name == "runtime.NumGoroutine") = false) (hb : fn.body.isSome = true)
  (ho:o.op=.call ⟨.value (.tmp t),args,tys⟩) (hd:o.dst=some d) (hn:d<n) (ht:σ (.s t)=.av (.one (.lk (fnR f caps hne)))) (hargs:vK σ args.toList sas) (hbl:kP σ bl) (hnw:lW σ nw) (hkE:kE bl r bl' nw=true) (ho1:fI bl=true) (ho2:fI bl'=true) (hnp:npE pl bl bl' (σ KP)=true) :
  aN P cx n σ o (KP::.s t::(args.toList.flatMap bH++keys bl)) ((.s d,.av r)::bl'):=by
 intro σ' a w Q ⟨ρ,h⟩ h1 h2 K hK;obtain⟨c,hc⟩:=Option.isSome_iff_exists.1 hb;have hs:=h.slt t _ ((h1 (.s t) (by simp)).trans ht);obtain⟨vs,hv,hat⟩:=hs w (Agree.refl _ _);have e1:a.eval (.tmp t)=.func (.func f) #[] vs.toArray:=hv;have hcaps:dR (aT cx σ' ρ) ρ w caps vs:=aIl fun w' hag=>by
  obtain⟨vs',hv',hat'⟩:=hs w' hag;rw[show a.tmps.getD t undef=_ from hv] at hv';injection hv' with q1 q2 q3;have:vs=vs':=by simpa using congrArg Array.toList q3
  rw[this]; exact hat'
 have hrun:(execOp a.eval o).run P w=.ok (.enter f (args.toList.map a.eval++vs).toArray) w:=by
  have h1 : fn.name ≠ "runtime.NumGoroutine" := by simpa using hname
  have h2:args.map a.eval++vs.toArray=(args.toList.map a.eval++vs).toArray:=Array.ext' (by simp);simp[execOp,ho,resolve,e1,Deferred.ofValue,invoke,callFunc,hf,h1,hc,h2]
 have hkp:σ' KP=σ KP:=h1 KP (by simp);refine aR0 h (hcon _ _ _ _ (h.noInt hfr (by rw[hkp]; exact hKP))) hwf hrun (aJh (hargs.is h fun q hq=>h1 q (by simp[hq])).1 hcaps) hd hn (hbl.same fun k hk=>h1 k (by simp[hk])) ?_ hkE (kU ho1).1 (by rw[hkp]; exact aN0 hnp) (kU ho2).1 (kU ho1).2 hK;have key:∀ m:List Nat,lW σ m->(∀ i∈m,i∈bK bl')->lW σ' m:=by
  intro m
  induction m with
  | nil=>intro _ _; trivial
  | cons i m ih=>exact fun q1 q2=>⟨(h2 (.b i) (by simp only[keys,List.map_cons,List.mem_cons]; exact .inr (mR.1 (q2 i List.mem_cons_self)))).trans q1.1,ih q1.2 fun j hj=>q2 j (List.mem_cons_of_mem _ hj)⟩
 exact key nw hnw fun i hi=>by
  simp only[kE,Bool.and_eq_true] at hkE;exact eU.1 (List.all_eq_true.1 hkE.1.1.2 i hi)
/-! A function that changes its caller's blocks. -/
abbrev dO:Key:=.s 1000000
abbrev eX (ks:List Nat) (ρ0:aR) (hne:ks≠[]):XV D:=.av (.one (.lk (aO1 ks ρ0 hne)))
def kL (σ:St D):Sg D->Prop
 | []=>True
 | (_,.dead)::r=>kL σ r
 | (k,x)::r=>σ k=x/\kL σ r
def yJ (P:Program) (cx:Cx D) (n:Nat) (fn:Func) (r:AV D) (bl':Sg D) (pl:Bool) (x:XV D) (e:Exit) (l:Sg D):Prop :=
 (e=.normal\/e=.ret)/\aF .no l dO=x/\kL (aF .no l) bl'/\(pl=true->bR (aF .no l KP)=[])/\∀ ρ a w,Conc cx n ρ (aF .no l) a w->∃ v,(results fn a.tmps).run P w=.ok v w/\r.is (aT cx (aF .no l) ρ) ρ w v
theorem kL.live {ρ:aR} {i:Nat}:∀ {bl:Sg D},kL σ bl->Vc.live (aF .no bl) ρ i->σ (.b i)=aF .no bl (.b i)
 | [],_,h=>absurd rfl (xJ h)
 | (k,x)::r,hb,h=>by
  have hr:kL σ r:=by cases x<;>first | exact hb | exact hb.2
  cases e:Key.beq k (.b i) with
  | true =>
   obtain rfl:=rT.1 e;have e2:aF .no ((.b i,x)::r) (.b i)=x:=by show (bif Key.beq (.b i) (.b i) then x else _)=_; rw[iE]; rfl
   rw[e2];cases x with
   | dead =>
    rcases gH h with ⟨T,ch,q⟩ | ⟨T,k,l,q,_⟩<;>rw[e2] at q<;>cases q
   | no=>exact hb.1
   | av x=>exact hb.1
   | blk T ch=>exact hb.1
   | row T k l=>exact hb.1
   | np l=>exact hb.1
  | false =>
   have e2:aF .no ((k,x)::r) (.b i)=aF .no r (.b i):=by show (bif Key.beq k (.b i) then x else _)=_; rw[e]; rfl
   rw[e2];exact kL.live hr ((fY (σ:=aF .no r) e2 rfl).1 h)
def stE (args:List (SA D)) (bl:Sg D):Bool:=((gK args).all fun b=>fK b (bK bl))&&(bl.all fun p=>p.2.ptrs.all fun b=>fK b (bK bl))
theorem sD {l m:Sg D} {k:Key} (h:k ∉ keys l):aF .no (l++m) k=aF .no m k:=by
 rw[<- fZ];exact lI h
theorem aJf {l m:Sg D} {k:Key} (h:k∈keys l):aF .no (l++m) k=aF .no l k:=by
 rw[<- fZ,<- List.append_nil l,<- fZ,List.append_nil];exact upd_same h
theorem aTi {args:List (SA D)} {i:Nat} {k:Key} (h:k∈keys (iL i args)):∃ j,j<args.length/\k=.s (i+j):=by
 obtain⟨p,hp,rfl⟩:=List.mem_map.1 h;obtain⟨j,s,h1,h2,_⟩:=xK args i p.1 p.2 hp;exact⟨j,(List.getElem?_eq_some_iff.1 h1).1,h2⟩
def qD (pl:Bool) (bl':Sg D):Sg D:=bif pl then [] else [(KP,.np (bK bl'))]
theorem aJ2 {pl:Bool} {f:FuncId} {fn:Func} {c:Code} {args:List (SA D)} {bl bl':Sg D} {nw:List Nat} {r:AV D} (hne:bK bl≠[]) (hf:P.funcs[f]?=some fn) (hb:fn.body=some c) (hnt:fn.ntmps=n) (hn6:Nat.ble n 1000000=true) (hn:Nat.ble args.length n=true) (ho1:fI bl=true) (hst:stE args bl=true) (hkE:kE bl r bl' nw=true) (ho2:fI bl'=true)
  (L:Nat->Prop) (ρ:aR) (w:World) (vs:List Value)
  (h:∀ cx:jD D,cx.w0=w->cx.L0=L->(∀ w,Kept cx.w0.heap.size cx.Bw cx.w0 w->bO.W D w)->(∀ b,cx.Bw b->∃ i,i∈bK bl/\live (aF .no bl) ρ i/\(ρ i).1=b)->CV P cx n c (iL 0 args++(bl++(dO,eX (bK bl) ρ hne)::qD pl bl')) (yJ P cx n fn r bl' pl (eX (bK bl) ρ hne))):aBs P f args bl r bl' nw pl L ρ w vs:=by
 subst hnt;intro hlt hW hall hbk hLb hinj;have hn':=Nat.le_of_ble_eq_true hn;have hn6':=Nat.le_of_ble_eq_true hn6;simp only[stE,Bool.and_eq_true] at hst;obtain⟨t1,t2⟩:=hst;simp only[kE,Bool.and_eq_true] at hkE;obtain⟨⟨⟨⟨c1,c2⟩,c3⟩,c4⟩,c5⟩:=hkE;obtain⟨o1,o2⟩:=kU ho1;obtain⟨o3,o4⟩:=kU ho2;obtain⟨cx,hcx⟩:∃ cx:jD D,cx=⟨w,L,hlt,true,fun b=>∃ i,live (aF .no bl) ρ i/\(ρ i).1=b,fun b ⟨i,hi,e⟩=>e ▸ hLb i hi,(fun q=>nomatch q),(fun q=>nomatch q),(fun q=>nomatch q)⟩:=⟨_,rfl⟩
 have x1:cx.w0=w:=by rw[hcx]
 have x2:cx.L0=L:=by rw[hcx]
 have x3:cx.Bw=fun b=>∃ i,live (aF .no bl) ρ i/\(ρ i).1=b:=by rw[hcx]
 obtain⟨σ,hσ⟩:∃ σ,σ=aF .no (iL 0 args++(bl++(dO,eX (bK bl) ρ hne)::qD pl bl')):=⟨_,rfl⟩
 have hA:∀ i,.b i ∉ keys (iL 0 args):=fun i hi=>by obtain⟨j,_,e⟩:=aTi hi; cases e
 have s2:∀ i,i∈bK bl'->i≠1000000:=fun i hi e=>by
  have:=List.all_eq_true.1 c2 i hi;rw[Bool.and_eq_true] at this;subst e;exact absurd this.2 (by decide)
 have s1:∀ i,i∈bK bl->i∈bK bl':=fun i hi=>eU.1 (List.all_eq_true.1 c1 i hi);have kb:∀ i,i≠1000000->σ (.b i)=aF .no bl (.b i):=by
  intro i hi6;rw[hσ,sD (hA i)];by_cases e:.b i∈keys bl
  ·exact aJf e
  ·rw[sD e,tW e];show (bif Key.beq dO (.b i) then _ else aF .no (qD pl bl') (.b i))=_;rw[iG (by simp),cond_false];cases pl with
   | true=>rfl
   | false =>
    show (bif Key.beq KP (.b i) then _ else XV.no)=_;rw[iG (by simpa[KP] using fun e:1000000=i=>hi6 e.symm),cond_false]
 have hK0:aF .no bl KP=.no:=tW fun hm=>s2 _ (s1 _ (mR.2 hm)) rfl;have kK:σ KP=bif pl then .no else .np (bK bl'):=by
  show σ (.b 1000000)=_;rw[hσ,sD (hA _),sD (fun hm=>s2 _ (s1 _ (mR.2 hm)) rfl)];show (bif Key.beq dO KP then _ else aF .no (qD pl bl') KP)=_;rw[iG (by simp[KP]),cond_false];cases pl with
  | true=>rfl
  | false =>
   show (bif Key.beq KP KP then _ else XV.no)=_;rw[iE]; rfl
 have ks:∀ t,t<args.length->σ (.s t)=aF .no (iL 0 args) (.s t)\/σ (.s t)=σ (.s t):=fun _ _=>.inr rfl;have kl:∀ t av,σ (.s t)=.av av->(∃ s,args[t]?=some s/\av=.one s)\/(t=1000000/\av=.one (.lk (aO1 (bK bl) ρ hne))):=by
  intro t av ht;by_cases e:.s t∈keys (iL 0 args)
  ·rw[hσ,aJf e] at ht;obtain⟨j,s,h1,h2,h3⟩:=xK args 0 _ _ (lJ ht (by simp));injection h2 with h2;rw[Nat.zero_add] at h2;subst h2;exact .inl ⟨s,h1,(XV.av.injEq _ _).mp h3⟩
  ·rw[hσ,sD e,sD (fun hm=>by obtain⟨i,q⟩:=o1 _ hm; cases q)] at ht;have hkE0:aF .no (qD pl bl') (.s t)=.no:=by cases pl<;>rfl
   have ht:(bif Key.beq dO (.s t) then eX (bK bl) ρ hne else aF .no (qD pl bl') (.s t))=_:=ht;rw[hkE0] at ht;cases e2:Key.beq dO (.s t) with
   | true =>
    rw[e2] at ht;have e3:=rT.1 e2;injection e3 with e3;exact .inr ⟨e3.symm,((XV.av.injEq _ _).mp ht).symm⟩
   | false=>rw[e2] at ht; cases ht
 have k6:∀ i,live σ ρ i->i≠1000000:=by
  rintro i hi rfl;rcases gH hi with ⟨T,ch,e⟩ | ⟨T,k,l,e,_⟩
  ·rw[show σ (.b 1000000)=_ from kK] at e; cases pl<;>cases e
  ·rw[show σ (.b 1000000)=_ from kK] at e; cases pl<;>cases e
 have lv:∀ i,live σ ρ i ↔ live (aF .no bl) ρ i:=fun i=>by
  by_cases e:i=1000000
  ·exact⟨fun hi=>absurd e (k6 i hi),fun hi=>absurd e (s2 i (s1 i (kB hi)))⟩
  ·exact fY (kb i e) rfl
 have hLof:∀ b,aT cx σ ρ b->L b:=by
  rintro b (q | ⟨i,q1,q2⟩)
  ·rwa[x2] at q
  ·exact q2 ▸ hLb i ((lv i).1 q1)
 have gg:Goes L w (aT cx σ ρ) w:=oC hLof;have hown:∀ b,b∈bK bl->σ (.b b)≠.no:=fun b hb=>by rw[kb b (s2 b (s1 b hb))]; exact hbk.no hb
 have hstart:CC cx fn.ntmps σ { tmps:=vs.toArray++Array.replicate (fn.ntmps-vs.toArray.size) undef,defers:=[] } w:=by
  have hlen:=yW hall;refine⟨ρ,by simp; omega,rfl,by rw[x1]; exact Kept.refl _ _ _,fun i hi=>.inr (by rw[x3]; exact⟨i,(lv i).1 hi,rfl⟩),fun i T ch hi=>?_,fun i T k l hi=>?_,fun i j hi hj=>hinj i j ((lv i).1 hi) ((lv j).1 hj),?_,?_,fun i T ch hi=>?_⟩
  ·have h6:=k6 i (jJ hi);rw[kb i h6] at hi;obtain⟨_,cs,g1,g2⟩:=hbk.blk hi;exact⟨cs,g1,g2.go gg fun _ _=>rfl⟩
  ·have h6:i≠1000000:=by
    rintro rfl;rw[show σ (.b 1000000)=_ from kK] at hi;cases pl<;>cases hi
   rw[kb i h6] at hi;refine(hbk.row hi).go gg rfl (fun _=>rfl) fun hq=>?_;cases hpb:pl with
   | true=>rfl
   | false =>
    rw[kK,hpb] at hq;exact absurd (s1 i (Classical.byContradiction fun hn=>by rw[tW (fun hm=>hn (mR.2 hm))] at hi; cases hi)) hq
  ·intro t av ht;rcases kl t av ht with ⟨s,h1,rfl⟩ | ⟨rfl,rfl⟩
   ·obtain⟨v,h4,h5⟩:=aD6 hall h1;have hv:(vs.toArray++Array.replicate (fn.ntmps-vs.toArray.size) undef).getD t undef=v:=by
     have hlt:=(List.getElem?_eq_some_iff.1 h4).1;rw[Array.getD_eq_getD_getElem?,Array.getElem?_append_left (by simpa using hlt),List.getElem?_toArray,h4];rfl
    show SA.is _ _ _ s _;rw[hv];exact h5.go gg fun _ _=>rfl
   ·intro w' _;refine⟨?_,fun _ _=>rfl⟩;rw[Array.getD_eq_getD_getElem?,Array.getElem?_eq_none (by simp; omega)];rfl
  ·intro k b hb';cases k with
   | b i =>
    by_cases e6:i=1000000
    ·subst e6;rw[show σ (.b 1000000)=_ from kK] at hb';cases pl<;>cases hb'
    ·rw[kb i e6] at hb';exact hown b (aDl t2 hb')
   | s t =>
    cases e:σ (.s t) with
    | av av =>
     rw[e] at hb';rcases kl t av e with ⟨s,h1,rfl⟩ | ⟨rfl,rfl⟩
     ·exact hown b (eU.1 (List.all_eq_true.1 t1 b (List.mem_flatMap.2 ⟨s,List.mem_of_getElem? h1,hb'⟩)))
     ·exact hown b hb'
    | no=>rw[e] at hb'; cases hb'
    | blk T ch =>
     exfalso;have hm:(Key.s t,XV.blk T ch)∈iL 0 args++(bl++(dO,eX (bK bl) ρ hne)::qD pl bl'):=lJ (by rw[<- hσ]; exact e) (by simp);rcases List.mem_append.1 hm with q | q
     ·obtain⟨_,_,_,_,q2⟩:=xK args 0 _ _ q; cases q2
     ·rcases List.mem_append.1 q with q | q
      ·obtain⟨i,q2⟩:=o1 _ (List.mem_map.2 ⟨_,q,rfl⟩); cases q2
      ·rcases List.mem_cons.1 q with q | q
       ·injection q with _ q2; cases q2
       ·cases pl
        ·have:=List.mem_singleton.1 q; injection this with _ q2; cases q2
        ·cases q
    | row T k l=>rw[e] at hb'; cases hb'
    | dead=>rw[e] at hb'; cases hb'
    | np l=>rw[e] at hb'; cases hb'
  ·intro hq;have h6:=k6 i (jJ hi);rw[kb i h6] at hi;refine(hbk.blk hi).1 ?_;cases hpb:pl with
   | true=>rfl
   | false =>
    rw[kK,hpb] at hq;exact absurd (s1 i (Classical.byContradiction fun hn=>by rw[tW (fun hm=>hn (mR.2 hm))] at hi; cases hi)) hq
 have hCV:=h cx x1 x2 (by rw[x1,x3]; exact hW) (by rw[x3]; exact fun b ⟨i,hi,e⟩=>⟨i,kB hi,hi,e⟩);rw[hσ] at hstart;refine calls_of_wp hf hb (wp_mono (hCV.run _ w hstart) ?_);rintro e a' w' ⟨l',⟨ρ'',hC⟩,he,hlk,hbo,hnp,hres⟩;obtain⟨v,h1,h2⟩:=hres ρ'' a' w' hC;have hlink:∀ i,i∈bK bl->ρ'' i=ρ i:=(hC.slt 1000000 _ hlk w' (Agree.refl _ _)).2;obtain⟨ρ',hρ'⟩:∃ ρ':aR,ρ'=fun i=>if i∈nw then ρ'' i else ρ i:=⟨_,rfl⟩
 have hr1:∀ i,i ∉ nw->ρ' i=ρ i:=fun i hi=>by rw[hρ']; simp[hi]
 have hr2:∀ i,i∈bK bl'->ρ' i=ρ'' i:=by
  intro i hi;by_cases e:i∈nw
  ·rw[hρ']; simp[e]
  ·rw[hr1 i e];have:=List.all_eq_true.1 c2 i hi;rw[Bool.and_eq_true,Bool.or_eq_true] at this;rcases this.1 with q | q
   ·exact(hlink i (eU.1 q)).symm
   ·exact absurd (eU.1 q) e
 have lb:∀ i,live (aF .no bl') ρ' i->live (aF .no bl') ρ'' i/\live (aF .no l') ρ'' i:=by
  intro i hi;have e:=hr2 i (kB hi);have e2:live (aF .no bl') ρ'' i:=(fY rfl e.symm).2 hi;exact⟨e2,(fY (hbo.live e2) rfl).2 e2⟩
 have hLL:∀ b,(L b\/∃ i,live (aF .no bl') ρ' i/\(ρ' i).1=b)->aT cx (aF .no l') ρ'' b:=by
  rintro b (q | ⟨i,q1,q2⟩)
  ·exact .inl (by rw[x2]; exact q)
  ·exact .inr ⟨i,(lb i q1).2,by rw[<- hr2 i (kB q1)]; exact q2⟩
 have g2:Goes (aT cx (aF .no l') ρ'') w' (fun b=>L b\/∃ i,live (aF .no bl') ρ' i/\(ρ' i).1=b) w':=oC hLL;have hkept:Kept w.heap.size (fun b=>∃ i,live (aF .no bl) ρ i/\(ρ i).1=b) w w':=by
  have:=hC.kept;rw[x1,x3] at this;exact this
 have hBk:dS (fun b=>L b\/∃ i,live (aF .no bl') ρ' i/\(ρ' i).1=b) ρ' w' pl bl':=by
  have key:∀ m:Sg D,kL (aF .no l') m->(∀ k∈keys m,∃ i,k=.b i)->(∀ p∈m,(∃ T ch,p.2=.blk T ch)\/(∃ T k l,p.2=.row T k l)\/p.2=.dead)->(∀ i,i∈bK m->ρ' i=ρ'' i)->(∀ p∈m,∀ b∈p.2.ptrs,ρ' b=ρ'' b)->dS (fun b=>L b\/∃ i,live (aF .no bl') ρ' i/\(ρ' i).1=b) ρ' w' pl m:=by
   intro m
   induction m with
   | nil=>intro _ _ _ _ _; trivial
   | cons p m ih =>
    intro q1 q2 q3 q4 q5;obtain⟨k,x⟩:=p;obtain⟨i,rfl⟩:=q2 k (by simp[keys]);have ih':kL (aF .no l') m->dS (fun b=>L b\/∃ i,live (aF .no bl') ρ' i/\(ρ' i).1=b) ρ' w' pl m:=fun z=>ih z (fun k hk=>q2 k (by simp only[keys,List.map_cons,List.mem_cons]; exact .inr hk)) (fun p hp=>q3 p (List.mem_cons_of_mem _ hp)) (fun j hj=>q4 j (List.mem_cons_of_mem _ hj)) (fun p hp=>q5 p (List.mem_cons_of_mem _ hp));have hi:=q4 i List.mem_cons_self;rcases q3 _ List.mem_cons_self with ⟨T,ch,e⟩ | ⟨T,k,l,e⟩ | e
    ·have e:x=_:=e;subst e;obtain⟨cs,g3,g4⟩:=hC.blk i T ch q1.1;exact⟨⟨fun hp=>hC.pln i T ch q1.1 (by rw[hnp hp]; simp),cs,by rw[hi]; exact g3,g4.go g2 fun b hb=>q5 _ List.mem_cons_self b hb⟩,ih' q1.2⟩
    ·have e:x=_:=e;subst e;have hrow:=hC.row i T k l q1.1;exact⟨(hrow.go (pl':=pl=true) g2 hi (fun _=>rfl) fun hp=>by rw[hnp hp]; simp),ih' q1.2⟩
    ·have e:x=_:=e;subst e;exact ih' q1
  exact key bl' hbo o3 o4 hr2 fun p hp b hb=>hr2 b (eU.1 (List.all_eq_true.1 (List.all_eq_true.1 c4 p hp) b hb))
 have hfin:∃ u,(results fn a'.tmps).run P w'=.ok u w'/\∃ v ρ',Ending.returned u=.returned v/\(∀ i,i ∉ nw->ρ' i=ρ i)/\Kept w.heap.size (fun b=>∃ i,live (aF .no bl) ρ i/\(ρ i).1=b) w w' /\
   r.is (fun b=>L b\/∃ i,live (aF .no bl') ρ' i/\(ρ' i).1=b) ρ' w' v/\dS (fun b=>L b\/∃ i,live (aF .no bl') ρ' i/\(ρ' i).1=b) ρ' w' pl bl' /\
   (∀ i,live (aF .no bl') ρ' i->w.heap.size<=(ρ' i).1\/∃ j,live (aF .no bl) ρ j/\(ρ j).1=(ρ' i).1)/\(∀ i j,live (aF .no bl') ρ' i->live (aF .no bl') ρ' j->(ρ' i).1=(ρ' j).1->i=j):=by
  refine⟨v,h1,v,ρ',rfl,hr1,hkept,h2.go g2 fun b hb=>hr2 b (eU.1 (List.all_eq_true.1 c5 b hb)),hBk,fun i hi=>?_,fun i j hi hj he=>?_⟩
  ·have:=hC.mine i (lb i hi).2;rw[x1,x3] at this;rw[hr2 i (kB hi)];exact this
  ·rw[hr2 i (kB hi),hr2 j (kB hj)] at he;exact hC.inj i j (lb i hi).2 (lb j hj).2 he
 rcases he with rfl | rfl
 ·exact⟨hC.defers,hfin⟩
 ·exact⟨hC.defers,hfin⟩
def yP (cx:jD D):Prop:=∀ b,cx.L0 b->∀ cs T fr,cx.w0.heap[b]?=some (.cells cs T fr)->∀ c∈cs.toList,cZ c=true
theorem yL.of {pl:Bool} {f:FuncId} {fn:Func} {c:Code} {args:List (SA D)} {bl bl':Sg D} {nw:List Nat} {r:AV D} (hne:bK bl≠[]) (hf:P.funcs[f]?=some fn) (hb:fn.body=some c) (hnt:fn.ntmps=n) (hn6:Nat.ble n 1000000=true) (hn:Nat.ble args.length n=true) (ho1:fI bl=true) (hst:stE args bl=true) (hkE:kE bl r bl' nw=true) (ho2:fI bl'=true)
  (h:∀ (cx:jD D) (ρ0:aR),yP cx->(∀ w,Kept cx.w0.heap.size cx.Bw cx.w0 w->bO.W D w)->(∀ b,cx.Bw b->∃ i,i∈bK bl/\live (aF .no bl) ρ0 i/\(ρ0 i).1=b)->CV P cx n c (iL 0 args++(bl++(dO,eX (bK bl) ρ0 hne)::qD pl bl')) (yJ P cx n fn r bl' pl (eX (bK bl) ρ0 hne))):yL P f args bl r bl' nw pl :=
 fun L ρ w vs hni=>aJ2 hne hf hb hnt hn6 hn ho1 hst hkE ho2 L ρ w vs fun cx h1 h2 hW hBw=>h cx ρ (by unfold yP; rw[h1,h2]; exact hni) hW hBw
def aZ7:XV D->Bool
 | .blk _ _=>true
 | _=>false
theorem aKr {ks:List Nat} {hne:ks≠[]} {ρ0:aR} {bl:Sg D} {d f:Nat} {fn:Func} {args:Array Operand} {tys:Array TypeId} {sas:List (SA D)} {r:AV D} (hNI:yP cx) (hW:∀ w,Kept cx.w0.heap.size cx.Bw cx.w0 w->bO.W D w) (hBw:∀ b,cx.Bw b->∃ i,i∈ks/\live (aF .no bl) ρ0 i/\(ρ0 i).1=b) (hlk:σ dO=eX ks ρ0 hne) (hks:(ks.all fun i=>aZ7 (σ (.b i)))=true)
  (hcon:aD P f sas r) (ho:o.op=.call ⟨.value (.func f),args,tys⟩) (hd:o.dst=some d) (hn:d<n)
  (hf : P.funcs[f]? = some fn) (hname : (fn.name == "runtime.NumGoroutine") = false) (hb : fn.body.isSome = true) (hargs : dY σ args.toList sas) (hr : r.ptrs = []) (hKP : bR (σ KP) = []) :
  aN P cx n σ o (KP::dO::(ks.map Key.b++args.toList.flatMap bH)) [(.s d,.av r)]:=by
 intro σ' a w Q ⟨ρ,h⟩ h1 _ K hK;have hlink:∀ i,i∈ks->ρ i=ρ0 i:=(h.slt 1000000 _ ((h1 dO (by simp)).trans hlk) w (Agree.refl _ _)).2;have hlive:∀ i,i∈ks->live σ' ρ i:=by
  intro i hi;have e:σ' (.b i)=σ (.b i):=h1 _ (by simp[hi]);have:=List.all_eq_true.1 hks i hi;rw[<- e] at this;cases e2:σ' (.b i) with
  | blk T ch=>exact jJ e2
  | no=>rw[e2] at this; cases this
  | av x=>rw[e2] at this; cases this
  | row T k l=>rw[e2] at this; cases this
  | dead=>rw[e2] at this; cases this
  | np l=>rw[e2] at this; cases this
 have hKP':bR (σ' KP)=[]:=by rw[h1 KP (by simp)]; exact hKP
 have own:∀ i,live σ' ρ i->∀ cs T fr,w.heap[(ρ i).1]?=some (.cells cs T fr)->∀ c∈cs.toList,cZ c=true:=by
  intro i hi cs T' fr hc c hcm;rcases gH hi with ⟨T,ch,e⟩ | ⟨T,k,l,e,hcap⟩
  ·obtain⟨cs',hc',hch⟩:=h.blk i T ch e;rw[hc] at hc';obtain⟨rfl,-,-⟩:=(Obj.cells.injEq _ _ _ _ _ _).mp (Option.some.inj hc');exact hch.plain (h.pln i T ch e (by rw[hKP']; simp)) c (by simpa using hcm)
  ·obtain⟨cs',sp,⟨_,hc',_⟩,h2,h3,h5⟩:=(h.row i T k l e).2 hcap;rw[hc] at hc';obtain⟨rfl,-,-⟩:=(Obj.cells.injEq _ _ _ _ _ _).mp (Option.some.inj hc');exact h5 (by rw[hKP']; simp) c (by simpa using hcm)
 have hni:gO (aT cx σ' ρ) w:=by
  rintro b (hb0 | ⟨i,hi,rfl⟩) cs T' fr hc c hcm
  ·by_cases hB:cx.Bw b
   ·obtain⟨i,q1,q2,q3⟩:=hBw b hB;rw[<- q3,<- hlink i q1] at hc;exact own i (hlive i q1) cs T' fr hc c hcm
   ·rw[h.kept.block b (cx.lt b hb0) hB] at hc;exact hNI b hb0 cs T' fr hc c hcm
  ·exact own i hi cs T' fr hc c hcm
 unfold Oper.wp;rw[xC (d:=d) ho hf hname hb,Oper.upon_enter];refine(hcon (aT cx σ' ρ) ρ w _ h.lofLt hni (hW w h.kept) (hargs.is h fun k hk=>h1 k (by simp[hk]))).mono ?_;rintro e w' ⟨v,rfl,hbel,hv⟩;show K (a.put o.dst v) w';rw[hd];exact hK _ _ ⟨ρ,h.put hbel hn hv (by rw[hr]; intro b hb; cases hb)⟩
end
end Vc
end Go.Proofs.YtbaihklbefhgdaaGreat

namespace Go.Proofs.YtbaihklbefhgdaaGreat
open Go.RowKit
open Go.Lib (hid)
open Dg Zn
namespace Vc
set_option linter.unusedSectionVars false
section
variable {D:Type} [bO D] {P:Program} {cx:Cx D} {n:Nat} {σ:St D} {o:Oper} {d t:Nat}
def aB1 (r:AV D):Prop:=∀ L L' ρ w v,r.is L ρ w v->r.is L' ρ w v
theorem aOa (x:Value):aB1 (.one (.v x):AV D):=fun _ _ _ _ _ h=>h
theorem aD1 {f:FuncId} {fn:Func} {args:Array Operand} {tys:Array TypeId} {sas:List (SA D)} {r:AV D} (hcon:aD P f sas r) (hfree:aB1 r) (hwf:∀ w',Kept cx.w0.heap.size cx.Bw cx.w0 w'->bO.W D w') (ho:o.op=.call ⟨.value (.func f),args,tys⟩) (hd:o.dst=some d) (hn:d<n)
  (hf : P.funcs[f]? = some fn) (hname : (fn.name == "runtime.NumGoroutine") = false) (hb : fn.body.isSome = true) (hargs : dY σ args.toList sas) (hr : r.ptrs = []) :
  aN P cx n σ o (args.toList.flatMap bH) [(.s d,.av r)]:=by
 intro σ' a w Q ⟨ρ,h⟩ h1 _ K hK;unfold Oper.wp;rw[xC (d:=d) ho hf hname hb,Oper.upon_enter];refine(hcon (fun _=>False) ρ w _ (fun _ q=>q.elim) (fun _ q=>q.elim) (hwf w h.kept) ((hargs.is h h1).go (oC fun _ q=>q.elim) fun _ _=>rfl)).mono ?_;rintro e w' ⟨v,rfl,hbel,hv⟩;show K (a.put o.dst v) w';rw[hd];exact hK _ _ ⟨ρ,h.put hbel hn (hfree _ _ _ _ _ hv) (by rw[hr]; intro b hb; cases hb)⟩
theorem bAa {fn:Func} {rv:ResultVar} {s:SA D} {r:AV D} {bl':Sg D} {pl:Bool} {x:XV D} {e:Exit} {l:Sg D} (hres:fn.results=#[rv]) (he:e=.normal\/e=.ret) (hlk:aF .no l dO=x) (hbo:kL (aF .no l) bl') (hnp:pl=true->bR (aF .no l KP)=[]) (hr:vO P (aF .no l) s rv) (hc:∀ L ρ w v,s.is L ρ w v->r.is L ρ w v):yJ P cx n fn r bl' pl x e l :=
 ⟨he,hlk,hbo,hnp,(aS (P:=P) (cx:=cx) (n:=n) hres he hr hc).2⟩
theorem bAb {fn:Func} {bl':Sg D} {pl:Bool} {x:XV D} {e:Exit} {l:Sg D} (hres:fn.results=#[]) (he:e=.normal\/e=.ret) (hlk:aF .no l dO=x) (hbo:kL (aF .no l) bl') (hnp:pl=true->bR (aF .no l KP)=[]):yJ P cx n fn (.tup []) bl' pl x e l :=
 ⟨he,hlk,hbo,hnp,fun ρ a w _=>⟨.tuple #[],by simp[results,hres],[],rfl,trivial⟩⟩
end
section
variable {P:Program} {cx:Cx Dm} {n:Nat}
theorem aIo {c:Code} {K:Exit->Sg Dm->Prop} {r t:Nat} {T:TypeId} {k:Option Nat} {s:SA Dm} {l0:Sg Dm} (hB:∀ ρ a w,Conc cx n ρ (aF .no l0) a w->¬ cx.Bw (ρ r).1) (hr:aF .no l0 (.b r)=.blk T [(k,s)]) (ht:aF .no l0 (.s t)=.av (.one (.ptr r 0))) (hp:s.ptrs=[]) (hrK:Nat.beq r 1000000=false)
  (h:CV P cx n c ((.s t,.av (.one (.d (Dm.gen (pG k s)))))::(.b r,.dead)::l0) K):CV P cx n c l0 K:=by
 refine⟨fun a w ⟨ρ,hC⟩=>h.run a w ⟨ρ,?_⟩⟩;have hB':=hB ρ a w hC;obtain⟨σ,hσ⟩:∃ σ,σ=aF .no l0:=⟨_,rfl⟩
 rw[<- hσ] at hr ht hC;obtain⟨σ',hσ'⟩:∃ σ',σ'=upd σ [(.s t,.av (.one (.d (Dm.gen (pG k s))))),(.b r,.dead)]:=⟨_,rfl⟩
 have e0:aF .no ((.s t,.av (.one (.d (Dm.gen (pG k s)))))::(.b r,.dead)::l0)=σ':=by rw[hσ',hσ,fZ]; rfl
 rw[e0];have k1:σ' (.s t)=.av (.one (.d (Dm.gen (pG k s)))):=by rw[hσ']; exact aFq
 have k2:σ' (.b r)=.dead:=by rw[hσ']; exact aA5
 have k3:∀ k,k≠.s t->k≠.b r->σ' k=σ k:=fun k h1 h2=>by rw[hσ']; exact aAj h1 h2
 have hrK1:r≠1000000:=fun e=>by subst e; cases hrK
 have hKP:σ' KP=σ KP:=k3 _ (by simp[KP]) (by simp[KP]; omega);have hrl:∀ j,live σ' ρ j->live σ ρ j/\j≠r:=by
  intro j hj;have e:j≠r:=by
   rintro rfl;rcases gH hj with ⟨T,ch,e⟩ | ⟨T,k,l,e,_⟩<;>rw[k2] at e<;>cases e
  exact⟨(fY (k3 _ (by simp) (by simpa using e)) rfl).1 hj,e⟩
 have hev:a.tmps.getD t undef=.pointer (some ⟨(ρ r).1,0,none⟩):=hC.slt t _ ht;have hlv:live σ ρ r:=jJ hr;refine hC.step (fun _=>False) (fun k=>k=.s t\/k=.b r) hC.size hC.defers rfl rfl rfl (Nat.le_refl _) (fun _ _ _=>rfl) (fun _ q=>q.elim)
  (fun k hk=>k3 k (fun q=>hk (.inl q)) (fun q=>hk (.inr q))) (fun _ _=>rfl) (fun _ _ q=>q.elim) (fun b _ q=>?_) ?_ ?_ ?_ (fun i _ q=>by rw[hKP] at q; exact q) (fun i j hi hj=>hC.inj i j (hrl i hi).1 (hrl j hj).1) ?_ (fun _ _=>rfl) ?_ ?_
 ·rcases q with q | ⟨j,q1,q2⟩
  ·exact .inl q
  ·exact .inr ⟨j,(hrl j q1).1,q2⟩
 ·rintro i (q | q) hi
  ·cases q
  ·injection q with q; subst q; exact absurd rfl (hrl _ hi).2
 ·rintro i T1 ch (q | q) hi
  ·cases q
  ·injection q with q; subst q; rw[k2] at hi; cases hi
 ·rintro i T1 k1 l1 (q | q) hi
  ·cases q
  ·injection q with q; subst q; rw[k2] at hi; cases hi
 ·rintro t1 av (q | q) ht1
  ·injection q with q;subst q;rw[k1] at ht1;obtain rfl:=(XV.av.injEq _ _).mp ht1;rw[hev];intro w' hag;obtain⟨cs,g1,p,q,v,rfl,g3,g4,g5⟩:=hC.blk r T _ hr;obtain rfl:q=[]:=g5;rw[List.append_nil] at g1;have hnL:¬ aT cx σ' ρ (ρ r).1:=by
    rintro(q | ⟨j,q1,q2⟩)
    ·rcases hC.mine r hlv with m | m
     ·have:=cx.lt _ q; omega
     ·exact hB' m
    ·obtain⟨q3,q4⟩:=hrl j q1;exact q4 (hC.inj j r q3 hlv q2)
   have g6:w'.heap[(ρ r).1]?=some (.cells p.toArray T (0,0)):=(hag.2 _ (hC.lt hlv) hnL).trans g1;refine⟨(ρ r).1,0,v,rfl,p,g3,aAh g4 hp ⟨hag.1,fun b hb hn=>hag.2 b hb fun q=>hn ?_⟩,fun j c hj=>?_⟩
   ·rcases q with q | ⟨j,q1,q2⟩
    ·exact .inl q
    ·exact .inr ⟨j,(hrl j q1).1,q2⟩
   ·rw[Nat.zero_add,cell_of_row w' _ _ _ T _ g6,List.getElem?_toArray];exact hj
  ·cases q
 ·rintro k b (q | q) hb'
  ·subst q; rw[k1] at hb'; cases hb'
  ·subst q; rw[k2] at hb'; cases hb'
 ·intro i hi;by_cases e:i=r
  ·rw[e,k2]; simp
  ·rw[k3 _ (by simp) (by simpa using e)]; exact hi
end
end Vc
end Go.Proofs.YtbaihklbefhgdaaGreat
