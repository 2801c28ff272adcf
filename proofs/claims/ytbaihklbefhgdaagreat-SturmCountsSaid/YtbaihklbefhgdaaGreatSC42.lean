/-
  
-/
import Derived.RangeFuncIn
import Derived.RangeFuncRecord
import Derived.RangeFuncSeq
import Derived.RangeFuncWrites
import Derived.TacticsIn
import Derived.Test.YtbaihklbefhgdaaGreatSC41
import Derived.Test.YtbaihklbefhgdaaGreatSC15
import Derived.RangeFuncLeaves
set_option linter.unusedVariables false
set_option linter.unusedSimpArgs false
set_option linter.unusedSectionVars false
namespace Go.Proofs.YtbaihklbefhgdaaGreat
open Go.RowKit
open Go.Lib (hid)
open Dg Zn
namespace Vc
set_option linter.unusedSectionVars false
section
variable {P:Program} {ops:Array Oper} {Q:Exit->Act->World->Prop} {m:Nat}
theorem aXq {o:Oper} {a:Act} {w:World} {K:Act->World->Prop} (hd:nL o=true) (h:o.wp P a w K Q):o.wpIn Fence.wide m P a w K Q:=by
 refine⟨fun _ _=>trivial,?_⟩;rw[Oper.semAt_eq _ _ _ (fun c hc=>by unfold nL at hd; rw[hc] at hd; cases hd)];unfold Oper.wp at h;generalize (execOp a.eval o).run P w=r at h |-;unfold Oper.upon at h;unfold Oper.uponIn;split at h
 ·exact h
 ·exact h
 ·exact h
 ·exact⟨fun h=>(by cases h),callsIn_wide.2 h⟩
 ·exact⟨fun h=>(by cases h),fun c cs _ =>
   let ⟨v,w',r,s⟩:=h c cs
   ⟨v,w',r,stepsIn_wide.2 s⟩⟩
 ·exact h
 ·exact h.elim
def aA1 (C:St Dm->Act->World->Prop) (P:Program) (m:Nat) (ops:Array Oper) (σ:St Dm) (o:Oper) (st:Stp (XV Dm)):Prop :=
 ∀ σ' a w (Q:Exit->Act->World->Prop),C σ' a w->(∀ k∈st.rd,σ' k=σ k)->(∀ k∈keys st.wr,σ' k=σ k) ->
  (Region.wanted o (yielded ops a.tmps)=true/\∀ K:Act->World->Prop,(∀ a' w',C (upd σ' st.wr) a' w'->K a' w')->o.wpIn Fence.wide m P a w K Q) \/
  (Region.wanted o (yielded ops a.tmps)=false/\C (upd σ' st.wr) (a.put o.dst undef) w)
theorem iM.wide {C:St Dm->Act->World->Prop} {σ:St Dm} {o:Oper} {st:Stp (XV Dm)} (hd:nL o=true) (h:iM C P ops σ o st):aA1 C P m ops σ o st:=by
 intro σ' a w Q hC h1 h2;rcases h σ' a w Q hC h1 h2 with ⟨q1,q2⟩ | q
 ·exact .inl ⟨q1,fun K hK=>aXq hd (q2 K hK)⟩
 ·exact .inr q
def cU (C:St Dm->Act->World->Prop) (P:Program) (m:Nat) (ops:Array Oper):List Oper->Sg Dm->(Sg Dm->Prop)->Prop
 | [],l,K=>K l
 | o::rest,l,K=>∃ st,aA1 C P m ops (aF .no l) o st/\cU C P m ops rest (st.wr++l) K
theorem cU.done {C:St Dm->Act->World->Prop} {l:Sg Dm} {K:Sg Dm->Prop} (h:K l):cU C P m ops [] l K:=h
theorem cU.step {C:St Dm->Act->World->Prop} {o:Oper} {rest:List Oper} {l:Sg Dm} {K:Sg Dm->Prop} {st:Stp (XV Dm)} (hd:nL o=true) (h:iM C P ops (aF .no l) o st) (k:cU C P m ops rest (st.wr++l) K):cU C P m ops (o::rest) l K:=⟨st,h.wide hd,k⟩
theorem aJ0 {C:St Dm->Act->World->Prop} {o:Oper} {rest:List Oper} {l:Sg Dm} {K:Sg Dm->Prop} {st:Stp (XV Dm)} (h:aA1 C P m ops (aF .no l) o st) (k:cU C P m ops rest (st.wr++l) K):cU C P m ops (o::rest) l K:=⟨st,h,k⟩
theorem cU.list {C:St Dm->Act->World->Prop} {K:Sg Dm->Prop} (hK:∀ l a w,K l->C (aF .no l) a w->Q .normal a w) :
  ∀ (rest:List Oper) (l:Sg Dm) (a:Act) (w:World),cU C P m ops rest l K->C (aF .no l) a w->wpListIn Fence.wide m P ops Q rest a w
 | [],l,a,w,h,hC=>hK l a w h hC
 | o::rest,l,a,w,⟨st,hs,hr⟩,hC=>by
  unfold wpListIn;rcases hs _ a w Q hC (fun _ _=>rfl) (fun _ _=>rfl) with ⟨h1,h2⟩ | ⟨h1,h2⟩
  ·rw[if_pos h1];refine h2 _ fun a' w' hC'=>?_;rw[fZ] at hC';exact cU.list hK rest _ a' w' hr hC'
  ·rw[if_neg (by rw[h1]; simp)];rw[fZ] at h2;exact⟨fun _ _=>trivial,cU.list hK rest _ _ w hr h2⟩
theorem aIn {cx:Cx Dm} {n:Nat} {id:Nat} {ops:List Oper} {l:Sg Dm} {K:Exit->Sg Dm->Prop} (m:Nat) (h:cU (CC cx n) P m ops.toArray ops l (K .normal)):CV P cx n (.region id ops.toArray false) l K :=
 ⟨fun a w hC=>wpIn_wide.1 (wpIn_region_lit (cU.list (fun l _ _ hl hc=>⟨l,hc,hl⟩) ops l a w h hC))⟩
end
section
variable {P:Program} {cx:Cx Dm} {n m:Nat} {σ:St Dm} {o:Oper} {ops:Array Oper} {d t:Nat}
theorem Conc.goes {ρ:aR} {a:Act} {w:World} (h:Conc cx n ρ σ a w):Goes cx.L0 cx.w0 (aT cx σ ρ) w:=by
 intro w'' hw;refine⟨Nat.le_trans h.kept.size hw.1,fun b hb hn=>?_⟩;have hB:¬ cx.Bw b:=fun q=>hn (cx.bl b q);refine(hw.2 b (Nat.lt_of_lt_of_le hb h.kept.size) ?_).trans (h.kept.block b hb hB);rintro(q | ⟨i,q1,q2⟩)
 ·exact hn q
 ·rcases h.mine i q1 with q | q
  ·omega
  ·exact hB (q2 ▸ q)
def YAt (P:Program) (m l0:Nat) (rec:Loop) (ks:List Nat) (ρ0:aR) (L1:Nat->Prop) (w1:World) (args:List (SA Dm)) (bl bl':Sg Dm) (nw:List Nat):Prop :=
 ∀ (L:Nat->Prop) (ρ:aR) (w:World) (vs:List Value),w.heap[l0]?=some (.loop rec)->L l0->(∀ i∈ks,ρ i=ρ0 i)->Goes L1 w1 L w ->
  aGs (fun vs w R=>YieldAt Fence.wide m P l0 vs w R) args bl (.one (.v (.bool true))) bl' nw true L ρ w vs
abbrev fO (l0:Nat):Value:=.func (.yield l0) #[] #[]
theorem aSc {l0:Nat} {args:Array Operand} {tys:Array TypeId} {a:Act} {w:World} (ho:o.op=.call ⟨.value (.tmp t),args,tys⟩) (e1:a.eval (.tmp t)=fO l0):(execOp a.eval o).run P w=(Instr.yield l0 (args.map a.eval)).run P w:=by
 simp[execOp,ho,resolve,e1,Deferred.ofValue,invoke]
theorem aHo {j dj:Nat} {b:Bool} {l0:Nat} {rec:Loop} {ks:List Nat} {hne:ks≠[]} {ρ0:aR} {args:Array Operand} {tys:Array TypeId} {sas:List (SA Dm)} {bl bl':Sg Dm} {nw:List Nat} (hrec:∀ w,Kept cx.w0.heap.size cx.Bw cx.w0 w->w.heap[l0]?=some (.loop rec)) (hL0:cx.L0 l0) (hY:YAt P (m-1) l0 rec ks ρ0 cx.L0 cx.w0 sas bl bl' nw) (hwf:∀ w',Kept cx.w0.heap.size cx.Bw cx.w0 w'->bO.W Dm w')
  (hg:o.guard=some (j,b)) (hj:(ops[j]?).bind (·.dst)=some dj) (hv:σ (.s dj)=.av (.one (.v (.bool b))))
  (hlk:σ dO=eX ks ρ0 hne) (ho:o.op=.call ⟨.value (.tmp t),args,tys⟩) (hd:o.dst=some d) (hn:d<n) (ht:σ (.s t)=.av (.one (.v (fO l0)))) (hargs:dY σ args.toList sas) (hbl:kP σ bl) (hnw:lW σ nw) (hkE:kE bl (.one (.v (.bool true))) bl' nw=true) (ho1:fI bl=true) (ho2:fI bl'=true) (hnp:npE true bl bl' (σ KP)=true) :
  aA1 (CC cx n) P m ops σ o ⟨.s dj::KP::dO::.s t::(args.toList.flatMap bH++keys bl),(.s d,.av (.one (.v (.bool true))))::bl'⟩:=by
 intro σ' a w Q hC h1 h2;have hw:Region.wanted o (yielded ops a.tmps)=true:=by
  have hy:=aCb hC hj ((h1 (.s dj) List.mem_cons_self).trans hv);unfold Region.wanted;rw[hg];show (yielded ops a.tmps j==some b)=true;rw[hy];simp
 obtain⟨ρ,h⟩:=hC;refine .inl ⟨hw,fun K hK=>?_⟩;have e1:a.eval (.tmp t)=fO l0:=h.slt t _ ((h1 (.s t) (by simp)).trans ht);have hlink:∀ i,i∈ks->ρ i=ρ0 i:=(h.slt 1000000 _ ((h1 dO (by simp)).trans hlk) w (Agree.refl _ _)).2;have hkp:σ' KP=σ KP:=h1 KP (by simp);have hcon:=hY (aT cx σ' ρ) ρ w (args.toList.map a.eval) (hrec w h.kept) (.inl hL0) hlink h.goes;refine aCn (Goal:=o.wpIn Fence.wide m P a w K Q) (run:=fun vs w R=>YieldAt Fence.wide (m-1) P l0 vs w R) h hcon hwf (fun R hR hk=>?_) (hargs.is h fun k hk=>h1 k (by simp[hk])) hn (hbl.same fun k hk=>h1 k (by simp[hk])) ?_ hkE (kU ho1).1 (by rw[hkp]; exact aN0 hnp) (kU ho2).1 (kU ho1).2 hK
 ·obtain⟨fn,tmps,assign,body,hy,hround⟩:=hR;refine⟨fun _ _=>trivial,?_⟩;rw[Oper.semAt_eq _ _ _ (fun c hc=>by rw[ho] at hc; cases hc),aSc ho e1];rw[show args.map a.eval=(args.toList.map a.eval).toArray from Array.ext' (by simp)];rw[hy,Oper.uponIn_round];refine⟨fun h=>(by cases h),hround.mono ?_⟩;intro e w' he;obtain⟨v,rfl,hv⟩:=hk e w' he;show K (a.put o.dst v) w';rw[hd];exact hv
 ·have key:∀ m:List Nat,lW σ m->(∀ i∈m,i∈bK bl')->lW σ' m:=by
   intro m
   induction m with
   | nil=>intro _ _; trivial
   | cons i m ih=>exact fun q1 q2=>⟨(h2 (.b i) (by simp only[keys,List.map_cons,List.mem_cons]; exact .inr (mR.1 (q2 i List.mem_cons_self)))).trans q1.1,ih q1.2 fun j hj=>q2 j (List.mem_cons_of_mem _ hj)⟩
  exact key nw hnw fun i hi=>by
   simp only[kE,Bool.and_eq_true] at hkE;exact eU.1 (List.all_eq_true.1 hkE.1.1.2 i hi)
def yK (P:Program) (f:FuncId) (caps:List (SA Dm)) (bl bl':Sg Dm) (nw:List Nat) (Y:Nat->Loop->aR->(Nat->Prop)->World->Prop):Prop :=
 ∀ (l0:Nat) (rec:Loop) (L:Nat->Prop) (ρ:aR) (w:World) (vs:List Value),w.heap[l0]?=some (.loop rec)->L l0->gO L w->Y l0 rec ρ L w ->
  aBs P f (.v (fO l0)::caps) bl (.tup []) bl' nw true L ρ w vs
theorem yK.of {f:FuncId} {fn:Func} {c:Code} {caps:List (SA Dm)} {bl bl':Sg Dm} {nw:List Nat} {Y:Nat->Loop->aR->(Nat->Prop)->World->Prop} (hne:bK bl≠[]) (hf:P.funcs[f]?=some fn) (hb:fn.body=some c) (hnt:fn.ntmps=n) (hn6:Nat.ble n 1000000=true) (hn:Nat.ble (caps.length+1) n=true) (ho1:fI bl=true) (hst:∀ v,stE (.v v::caps) bl=true) (hkE:kE bl (.tup []) bl' nw=true) (ho2:fI bl'=true)
  (h:∀ (l0:Nat) (rec:Loop) (cx:jD Dm) (ρ0:aR),yP cx->(∀ w,Kept cx.w0.heap.size cx.Bw cx.w0 w->w.heap[l0]?=some (.loop rec))->cx.L0 l0->Y l0 rec ρ0 cx.L0 cx.w0->(∀ w,Kept cx.w0.heap.size cx.Bw cx.w0 w->bO.W Dm w)->(∀ b,cx.Bw b->∃ i,i∈bK bl/\live (aF .no bl) ρ0 i/\(ρ0 i).1=b) ->
   CV P cx n c (iL 0 (.v (fO l0)::caps)++(bl++(dO,eX (bK bl) ρ0 hne)::qD true bl')) (yJ P cx n fn (.tup []) bl' true (eX (bK bl) ρ0 hne))):yK P f caps bl bl' nw Y:=by
 intro l0 rec L ρ w vs hrec hL hni hY hlt hW hall hbk hLb hinj;refine aJ2 (n:=n) (args:=.v (fO l0)::caps) hne hf hb hnt hn6 hn ho1 (hst _) hkE ho2 L ρ w vs (fun cx h1 h2 hW hBw=>?_) hlt hW hall hbk hLb hinj;refine h l0 rec cx ρ (by unfold yP; rw[h1,h2]; exact hni) (fun w' hk=>?_) (by rw[h2]; exact hL) (by rw[h1,h2]; exact hY) hW hBw;rw[h1] at hk;rw[hk.block l0 (Array.getElem?_eq_some_iff.1 hrec).1 ?_]
 ·exact hrec
 ·intro hB;obtain⟨i,q1,q2,q3⟩:=hBw l0 hB;rcases gH q2 with ⟨T,ch,e⟩ | ⟨T,k,l,e,hc⟩
  ·obtain⟨_,cs,e2,_⟩:=hbk.blk e;rw[q3,hrec] at e2;cases e2
  ·obtain⟨cs,sp,⟨_,e2,_⟩,_⟩:=(hbk.row e).2 hc;rw[q3,hrec] at e2;cases e2
end
end Vc
end Go.Proofs.YtbaihklbefhgdaaGreat

namespace Go.Proofs.YtbaihklbefhgdaaGreat
open Go.RowKit
open Go.Lib (hid)
open Dg Zn
namespace Vc
set_option linter.unusedSectionVars false
section
variable {P:Program} {cx:Cx Dm} {n:Nat} {σ:St Dm}
theorem aY0 {SL bl:Sg Dm} {ρ:aR} {L:Nat->Prop} {w:World} {a:Act} (x1:cx.w0=w) (x2:cx.L0=L) (hB:∀ b,(∃ i,live (aF .no bl) ρ i/\(ρ i).1=b)->cx.Bw b) (hsz:a.tmps.size=n) (hdf:a.defers=[])
  (hS:∀ k x,(k,x)∈SL->∃ t av,k=.s t/\x=.av av/\(∀ b∈av.ptrs,b∈bK bl)/\av.is L ρ w (a.tmps.getD t undef)) (hbk:dS L ρ w true bl) (hLb:∀ i,live (aF .no bl) ρ i->L (ρ i).1)
  (hinj:∀ i j,live (aF .no bl) ρ i->live (aF .no bl) ρ j->(ρ i).1=(ρ j).1->i=j) (ho1:fI bl=true) (hst:(bl.all fun p=>p.2.ptrs.all fun b=>fK b (bK bl))=true) (h6:(bK bl).all (fun i => !Nat.beq i 1000000)=true):Conc cx n ρ (aF .no (SL++bl)) a w:=by
 obtain⟨o1,o2⟩:=kU ho1;obtain⟨σ,hσ⟩:∃ σ,σ=aF .no (SL++bl):=⟨_,rfl⟩
 have kb:∀ i,σ (.b i)=aF .no bl (.b i):=by
  intro i;rw[hσ];refine sD fun hm=>?_;obtain⟨p,hp,e⟩:=List.mem_map.1 hm;obtain⟨t,av,h1,_⟩:=hS p.1 p.2 hp;rw[h1] at e;cases e
 have ks:∀ t x,σ (.s t)=x->x≠.no->(Key.s t,x)∈SL:=by
  intro t x h1 h2;rw[hσ] at h1;rcases List.mem_append.1 (lJ h1 h2) with q | q
  ·exact q
  ·obtain⟨i,e⟩:=o1 _ (List.mem_map.2 ⟨_,q,rfl⟩);cases e
 have h6':∀ i,i∈bK bl->i≠1000000:=fun i hi e=>by
  have:=List.all_eq_true.1 h6 i hi;subst e;exact absurd this (by decide)
 have kK:σ KP=.no:=by
  rw[show σ KP=_ from kb 1000000];exact tW fun hm=>h6' _ (mR.2 hm) rfl
 have lv:∀ i,live σ ρ i ↔ live (aF .no bl) ρ i:=fun i=>fY (kb i) rfl;have hLof:∀ b,aT cx σ ρ b->L b:=by
  rintro b (q | ⟨i,q1,q2⟩)
  ·rwa[x2] at q
  ·exact q2 ▸ hLb i ((lv i).1 q1)
 have gg:Goes L w (aT cx σ ρ) w:=oC hLof;have hown:∀ b,b∈bK bl->σ (.b b)≠.no:=fun b hb=>by rw[kb b]; exact hbk.no hb
 rw[<- hσ];refine⟨hsz,hdf,by rw[x1]; exact Kept.refl _ _ _,fun i hi=>.inr (hB _ ⟨i,(lv i).1 hi,rfl⟩),fun i T ch hi=>?_,fun i T k l hi=>?_,fun i j hi hj=>hinj i j ((lv i).1 hi) ((lv j).1 hj),?_,?_,fun i T ch hi _=>?_⟩
 ·rw[kb i] at hi;obtain⟨_,cs,g1,g2⟩:=hbk.blk hi;exact⟨cs,g1,g2.go gg fun _ _=>rfl⟩
 ·rw[kb i] at hi;exact(hbk.row hi).go gg rfl (fun _=>rfl) fun _=>rfl
 ·intro t av ht;obtain⟨t',av',e1,e2,_,e4⟩:=hS _ _ (ks t _ ht (by simp));injection e1 with e1;subst e1;obtain rfl:=(XV.av.injEq _ _).mp e2;exact e4.go gg fun _ _=>rfl
 ·intro k b hb';cases k with
  | b i =>
   rw[kb i] at hb';exact hown b (aDl hst hb')
  | s t =>
   have hne:σ (.s t)≠.no:=fun e=>by rw[e] at hb'; cases hb'
   obtain⟨t',av',e1,e2,e3,_⟩:=hS _ _ (ks t _ rfl hne);rw[e2] at hb';exact hown b (e3 b hb')
 ·rw[kb i] at hi;exact(hbk.blk hi).1 rfl
theorem Conc.swap {cx':Cx Dm} {ρ:aR} {a:Act} {w w':World} {l0:Nat} {r:Loop} (h:Conc cx n ρ σ a w) (hL:cx'.L0=cx.L0) (hs:cx'.w0.heap.size=cx.w0.heap.size) (hB:cx'.Bw=cx.Bw) (hk:Kept cx'.w0.heap.size cx'.Bw cx'.w0 w') (hl:cx.L0 l0) (hr:w.heap[l0]?=some (.loop r))
  (hsz:w'.heap.size=w.heap.size) (hb:∀ b,b≠l0->w'.heap[b]?=w.heap[b]?):Conc cx' n ρ σ a w':=by
 have hLof:aT cx' σ ρ=aT cx σ ρ:=by unfold aT; rw[hL]
 have hn:∀ i,live σ ρ i->(ρ i).1≠l0:=by
  intro i hi e;rcases gH hi with ⟨T,ch,q⟩ | ⟨T,k,l,q,hc⟩
  ·obtain⟨cs,e2,_⟩:=h.blk i T ch q;rw[e,hr] at e2; cases e2
  ·obtain⟨cs,sp,⟨_,e2,_⟩,_⟩:=(h.row i T k l q).2 hc;rw[e,hr] at e2; cases e2
 have g:Goes (aT cx σ ρ) w (aT cx' σ ρ) w':=by
  rw[hLof];intro w'' hw;refine⟨by rw[<- hsz]; exact hw.1,fun b hbs hnL=>?_⟩;exact(hw.2 b (by rw[hsz]; exact hbs) hnL).trans (hb b fun e=>hnL (.inl (e ▸ hl)))
 refine⟨h.size,h.defers,hk,fun i hi=>by rw[hs,hB]; exact h.mine i hi,fun i T ch hi=>?_,fun i T k l hi=>?_,h.inj,fun t av ht=>(h.slt t av ht).go g fun _ _=>rfl,h.own,h.pln⟩
 ·obtain⟨cs,e1,e2⟩:=h.blk i T ch hi;exact⟨cs,(hb _ (hn i (jJ hi))).trans e1,e2.go g fun _ _=>rfl⟩
 ·exact(h.row i T k l hi).go g rfl (fun hc=>hb _ (hn i ((jI hi).2 hc))) fun q=>q
theorem bAn {l':Sg Dm} {ρ ρ'':aR} {L:Nat->Prop} {w w':World} {a':Act} {bl bl':Sg Dm} {nw:List Nat} {hne:bK bl≠[]} {r:AV Dm} (x1:cx.w0=w) (x2:cx.L0=L) (x3:cx.Bw=fun b=>∃ i,live (aF .no bl) ρ i/\(ρ i).1=b) (hC:Conc cx n ρ'' (aF .no l') a' w') (hlk:aF .no l' dO=eX (bK bl) ρ hne) (hbo:kL (aF .no l') bl') (hnp:bR (aF .no l' KP)=[])
  (ho2:fI bl'=true) (hkE:kE bl r bl' nw=true):∃ ρ',(∀ i,i ∉ nw->ρ' i=ρ i)/\Kept w.heap.size (fun b=>∃ i,live (aF .no bl) ρ i/\(ρ i).1=b) w w' /\
   dS (fun b=>L b\/∃ i,live (aF .no bl') ρ' i/\(ρ' i).1=b) ρ' w' true bl' /\
   (∀ i,live (aF .no bl') ρ' i->w.heap.size<=(ρ' i).1\/∃ j,live (aF .no bl) ρ j/\(ρ j).1=(ρ' i).1)/\(∀ i j,live (aF .no bl') ρ' i->live (aF .no bl') ρ' j->(ρ' i).1=(ρ' j).1->i=j):=by
 simp only[kE,Bool.and_eq_true] at hkE;obtain⟨⟨⟨⟨c1,c2⟩,c3⟩,c4⟩,c5⟩:=hkE;obtain⟨o3,o4⟩:=kU ho2;have hlink:∀ i,i∈bK bl->ρ'' i=ρ i:=(hC.slt 1000000 _ hlk w' (Agree.refl _ _)).2;obtain⟨ρ',hρ'⟩:∃ ρ':aR,ρ'=fun i=>if i∈nw then ρ'' i else ρ i:=⟨_,rfl⟩
 have hr1:∀ i,i ∉ nw->ρ' i=ρ i:=fun i hi=>by rw[hρ']; simp[hi]
 have hr2:∀ i,i∈bK bl'->ρ' i=ρ'' i:=by
  intro i hi;by_cases e:i∈nw
  ·rw[hρ']; simp[e]
  ·rw[hr1 i e];have:=List.all_eq_true.1 c2 i hi;rw[Bool.and_eq_true,Bool.or_eq_true] at this;rcases this.1 with q | q
   ·exact(hlink i (eU.1 q)).symm
   ·exact absurd (eU.1 q) e
 have lb:∀ i,live (aF .no bl') ρ' i->live (aF .no bl') ρ'' i/\live (aF .no l') ρ'' i:=by
  intro i hi;have e:=hr2 i (kB hi);have e2:live (aF .no bl') ρ'' i:=(fY rfl e.symm).2 hi;exact⟨e2,(fY (hbo.live e2) rfl).2 e2⟩
 have hLL:∀ b,(L b\/∃ i,live (aF .no bl') ρ' i/\(ρ' i).1=b)->aT cx (aF .no l') ρ'' b:=by
  rintro b (q | ⟨i,q1,q2⟩)
  ·exact .inl (by rw[x2]; exact q)
  ·exact .inr ⟨i,(lb i q1).2,by rw[<- hr2 i (kB q1)]; exact q2⟩
 have g2:Goes (aT cx (aF .no l') ρ'') w' (fun b=>L b\/∃ i,live (aF .no bl') ρ' i/\(ρ' i).1=b) w':=oC hLL;have hkept:Kept w.heap.size (fun b=>∃ i,live (aF .no bl) ρ i/\(ρ i).1=b) w w':=by
  have:=hC.kept;rw[x1,x3] at this;exact this
 have hBk:dS (fun b=>L b\/∃ i,live (aF .no bl') ρ' i/\(ρ' i).1=b) ρ' w' true bl':=by
  have key:∀ m:Sg Dm,kL (aF .no l') m->(∀ k∈keys m,∃ i,k=.b i)->(∀ p∈m,(∃ T ch,p.2=.blk T ch)\/(∃ T k l,p.2=.row T k l)\/p.2=.dead)->(∀ i,i∈bK m->ρ' i=ρ'' i)->(∀ p∈m,∀ b∈p.2.ptrs,ρ' b=ρ'' b)->dS (fun b=>L b\/∃ i,live (aF .no bl') ρ' i/\(ρ' i).1=b) ρ' w' true m:=by
   intro m
   induction m with
   | nil=>intro _ _ _ _ _; trivial
   | cons p m ih =>
    intro q1 q2 q3 q4 q5;obtain⟨k,x⟩:=p;obtain⟨i,rfl⟩:=q2 k (by simp[keys]);have ih':kL (aF .no l') m->dS (fun b=>L b\/∃ i,live (aF .no bl') ρ' i/\(ρ' i).1=b) ρ' w' true m:=fun z=>ih z (fun k hk=>q2 k (by simp only[keys,List.map_cons,List.mem_cons]; exact .inr hk)) (fun p hp=>q3 p (List.mem_cons_of_mem _ hp)) (fun j hj=>q4 j (List.mem_cons_of_mem _ hj)) (fun p hp=>q5 p (List.mem_cons_of_mem _ hp));have hi:=q4 i List.mem_cons_self;rcases q3 _ List.mem_cons_self with ⟨T,ch,e⟩ | ⟨T,k,l,e⟩ | e
    ·have e:x=_:=e;subst e;obtain⟨cs,g3,g4⟩:=hC.blk i T ch q1.1;exact⟨⟨fun hp=>hC.pln i T ch q1.1 (by rw[hnp]; simp),cs,by rw[hi]; exact g3,g4.go g2 fun b hb=>q5 _ List.mem_cons_self b hb⟩,ih' q1.2⟩
    ·have e:x=_:=e;subst e;have hrow:=hC.row i T k l q1.1;exact⟨(hrow.go (pl':=true=true) g2 hi (fun _=>rfl) fun hp=>by rw[hnp]; simp),ih' q1.2⟩
    ·have e:x=_:=e;subst e;exact ih' q1
  exact key bl' hbo o3 o4 hr2 fun p hp b hb=>hr2 b (eU.1 (List.all_eq_true.1 (List.all_eq_true.1 c4 p hp) b hb))
 refine⟨ρ',hr1,hkept,hBk,fun i hi=>?_,fun i j hi hj he=>?_⟩
 ·have:=hC.mine i (lb i hi).2;rw[x1,x3] at this;rw[hr2 i (kB hi)];exact this
 ·rw[hr2 i (kB hi),hr2 j (kB hj)] at he;exact hC.inj i j (lb i hi).2 (lb j hj).2 he
end
/-! A round's code. -/
structure mC (P:Program) (cx:Cx Dm) (n l0 m:Nat) (c:Code) (l:Sg Dm) (K:Exit->Sg Dm->Prop):Prop where
 run:∀ a w,CC cx n (aF .no l) a w->c.wpIn (rK l0) m P (fun e a' w'=>∃ l',CC cx n (aF .no l') a' w'/\K e l') a w
section
variable {P:Program} {cx:Cx Dm} {n l0 m:Nat} {l:Sg Dm} {K:Exit->Sg Dm->Prop}
theorem mC.region {id:Nat} {ops:List Oper} {draw:Bool} (hm:P.follows .mixedOrders=true) (hb:draw=true->Pu.jO .any ops.toArray=true) (hd:ops.all nL=true) (h:RV .no (CC cx n) P ops.toArray draw ops [] l (K .normal)):mC P cx n l0 m (.region id ops.toArray draw) l K:=by
 refine⟨fun a w hC=>?_⟩;refine wpIn_mono (RV.wpIn (x0:=.no) (C:=CC cx n) (K:=K .normal) (fun a w h=>h.drew) hm hb (by simpa using hd) (by simpa using h) hC) ?_;intro e a' w' he;cases e with
 | normal=>obtain⟨l',h1,h2⟩:=he; exact⟨l',h2,h1⟩
 | exit id=>exact he.elim
 | goto m=>exact he.elim
 | ret=>exact he.elim
 | panic c=>exact he.elim
 | outgrown=>exact he.elim
theorem mC.block {id:Nat} {c:Code} (h:mC P cx n l0 m c l (aB2 id K)):mC P cx n l0 m (.block id c) l K:=by
 refine⟨fun a w hC=>?_⟩;refine wpIn_block (wpIn_mono (h.run a w hC) ?_);rintro e a' w' ⟨l',h1,h2⟩;cases e with
 | exit id' =>
  unfold aB2 at h2;unfold Exit.inBlock;simp only at h2 |-;split
  ·rename_i e; subst e; rw[show Nat.beq id' id'=true from Nat.beq_refl id',cond_true] at h2; exact⟨l',h1,h2⟩
  ·rename_i e;have e2:Nat.beq id' id=false:=by
    cases e2:Nat.beq id' id with
    | false=>rfl
    | true=>exact absurd (Nat.eq_of_beq_eq_true e2) e
   rw[e2,cond_false] at h2; exact⟨l',h1,h2⟩
 | normal=>exact⟨l',h1,h2⟩
 | goto m=>exact⟨l',h1,h2⟩
 | ret=>exact⟨l',h1,h2⟩
 | panic c=>exact⟨l',h1,h2⟩
 | outgrown=>exact⟨l',h1,h2⟩
end
end Vc
end Go.Proofs.YtbaihklbefhgdaaGreat

namespace Go.Proofs.YtbaihklbefhgdaaGreat
open Go.RowKit
open Go.Lib (hid)
open Dg Zn
namespace Vc
set_option linter.unusedSectionVars false
section
variable {P:Program} {n m:Nat}
def aZw (bl bl':Sg Dm) (ρ:aR) (hne:bK bl≠[]) (e:Exit) (l:Sg Dm):Prop:=e=.normal/\aF .no l dO=eX (bK bl) ρ hne/\kL (aF .no l) bl'/\bR (aF .no l KP)=[]
theorem aHd {l0 fn p0 D:Nat} {tm:Array Value} {assign body:Code} {SL:Sg Dm} {s0:SA Dm} {bl bl':Sg Dm} {nw:List Nat} {ks:List Nat} {ρ0:aR} {L1:Nat->Prop} {w1:World} (hne:bK bl≠[]) (hsz:tm.size=n) (hp0:p0<n) (hn6:Nat.ble n 1000000=true)
  (hSL:∀ k x,(k,x)∈SL->∃ t av,k=.s t/\t≠p0/\x=.av av/\(∀ b∈av.ptrs,b∈bK bl/\b∈ks)/\av.is L1 ρ0 w1 (tm.getD t undef)) (hs0:s0.ptrs=[]) (ho1:fI bl=true) (ho2:fI bl'=true) (hst:(bl.all fun p=>p.2.ptrs.all fun b=>fK b (bK bl))=true) (h6:(bK bl).all (fun i => !Nat.beq i 1000000)=true) (hkE:kE bl (.one (.v (.bool true))) bl' nw=true)
  (hAB:∀ (cx:jD Dm) (ρ:aR),mC P cx n l0 m assign (((.s p0,.av (.one s0))::(SL++[(dO,eX (bK bl) ρ hne)]))++bl) (fun e l2=>e=.normal/\∀ cx2:jD Dm,mC P cx2 n l0 m body l2 (aZw bl bl' ρ hne))) :
  YAt P m l0 { state:=.ready,pending:=none,fn:=fn,tmps:=tm,params:=#[p0],assign:=assign,body:=body,defers:=D } ks ρ0 L1 w1 [s0] bl bl' nw:=by
 intro L ρ w vs hrec hLl hlink hG hlt hW hall hbk hLb hinj
 match vs,hall with
 | [v],⟨hv,_⟩ =>
 refine⟨fn,_,assign,body,run_yield hrec (by simp),roundIn_of_wpIn trivial ?_⟩;obtain⟨tmps,htm⟩:∃ tmps,tmps=tm.setIfInBounds p0 v:=⟨_,rfl⟩
 have e0:((#[p0]:Array Tmp).zip #[v]).foldl (fun t (x:Tmp × Value)=>t.setIfInBounds x.1 x.2) tm=tmps:=by rw[htm]; simp
 show Code.wpIn _ _ _ _ _ { tmps:=((#[p0]:Array Tmp).zip #[v]).foldl (fun t (x:Tmp × Value)=>t.setIfInBounds x.1 x.2) tm,defers:=[] } w;rw[e0];have hlive:∀ i,live (aF .no bl) ρ i->(ρ i).1≠l0:=by
  intro i hi e;rcases gH hi with ⟨T,ch,q⟩ | ⟨T,k,l,q,hc⟩
  ·obtain⟨_,cs,e2,_⟩:=hbk.blk q;rw[e,hrec] at e2; cases e2
  ·obtain⟨cs,sp,⟨_,e2,_⟩,_⟩:=(hbk.row q).2 hc;rw[e,hrec] at e2; cases e2
 have hl0s:l0<w.heap.size:=(Array.getElem?_eq_some_iff.1 hrec).1;obtain⟨Bw,hBw⟩:∃ Bw:Nat->Prop,Bw=fun b=>∃ i,live (aF .no bl) ρ i/\(ρ i).1=b:=⟨_,rfl⟩
 have hBL:∀ b,Bw b->L b:=by rw[hBw]; rintro b ⟨i,hi,rfl⟩; exact hLb i hi
 have hBl:¬ Bw l0:=by rw[hBw]; rintro⟨i,hi,e⟩; exact hlive i hi e
 obtain⟨cxA,hA⟩:∃ cx:jD Dm,cx=⟨w,L,hlt,true,Bw,hBL,(fun q=>nomatch q),(fun q=>nomatch q),(fun q=>nomatch q)⟩:=⟨_,rfl⟩
 have a1:cxA.w0=w:=by rw[hA]
 have a2:cxA.L0=L:=by rw[hA]
 have a3:cxA.Bw=Bw:=by rw[hA]
 obtain⟨busy,hbusy⟩:∃ busy:Obj,busy=.loop { state:=.busy,pending:=none,fn:=fn,tmps:=tm,params:=#[p0],assign:=assign,body:=body,defers:=D }:=⟨_,rfl⟩
 obtain⟨wb,hwb⟩:∃ wb,wb=w.putObj l0 busy:=⟨_,rfl⟩
 have hwbs:wb.heap.size=w.heap.size:=by rw[hwb]; exact World.putObj_size
 obtain⟨cxB,hB⟩:∃ cx:jD Dm,cx=⟨wb,L,(fun b hb=>by rw[hwbs]; exact hlt b hb),true,Bw,hBL,(fun q=>nomatch q),(fun q=>nomatch q),(fun q=>nomatch q)⟩:=⟨_,rfl⟩
 have b1:cxB.w0=wb:=by rw[hB]
 have b2:cxB.L0=L:=by rw[hB]
 have b3:cxB.Bw=Bw:=by rw[hB]
 have htn:tmps.size=n:=by rw[htm]; simpa using hsz
 have hstart:Conc cxA n ρ (aF .no (((.s p0,.av (.one s0))::(SL++[(dO,eX (bK bl) ρ hne)]))++bl)) { tmps:=tmps,defers:=[] } w:=by
  refine aY0 a1 a2 (by rw[a3,hBw]; exact fun b q=>q) htn rfl ?_ hbk hLb hinj ho1 hst h6;intro k x hm;rcases List.mem_cons.1 hm with q | q
  ·injection q with q1 q2;subst q1; subst q2;refine⟨p0,.one s0,rfl,rfl,?_,?_⟩
   ·show ∀ b∈s0.ptrs,b∈bK bl;rw[hs0];intro b hb;cases hb
   show s0.is L ρ w (tmps.getD p0 undef);rw[htm,Array.getD_eq_getD_getElem?,Array.getElem?_setIfInBounds_self_of_lt (by omega)];exact hv
  ·rcases List.mem_append.1 q with q | q
   ·obtain⟨t,av,e1,e2,e3,e4,e5⟩:=hSL k x q;refine⟨t,av,e1,e3,fun b hb=>(e4 b hb).1,?_⟩;have:tmps.getD t undef=tm.getD t undef:=by
     rw[htm,Array.getD_eq_getD_getElem?,Array.getElem?_setIfInBounds_ne (fun h=>e2 h.symm),<- Array.getD_eq_getD_getElem?]
    rw[this];exact e5.go hG fun b hb=>hlink b (e4 b hb).2
   ·have q:=List.mem_singleton.1 q;injection q with q1 q2;subst q1; subst q2;refine⟨1000000,_,rfl,rfl,fun b hb=>hb,?_⟩;intro w' _;refine⟨?_,fun _ _=>rfl⟩;have hle:=Nat.le_of_ble_eq_true hn6;show tmps.getD 1000000 undef=undef;rw[Array.getD_eq_getD_getElem?,Array.getElem?_eq_none (by omega)];rfl
 refine wpIn_mono ((hAB cxA ρ).run _ w ⟨ρ,hstart⟩) ?_;rintro e a2' w2 ⟨l2,⟨ρ2,hC2⟩,rfl,hbody⟩;have hr2:w2.heap[l0]?=some (.loop { state:=.ready,pending:=none,fn:=fn,tmps:=tm,params:=#[p0],assign:=assign,body:=body,defers:=D }):=by
  have:=hC2.kept.block l0 (by rw[a1]; exact hl0s) (by rw[a3]; exact hBl);rw[this,a1]; exact hrec
 have hl2:l0<w2.heap.size:=(Array.getElem?_eq_some_iff.1 hr2).1;refine⟨_,run_beginRound hr2 rfl,?_⟩;have hC2':Conc cxB n ρ2 (aF .no l2) a2' (w2.putObj l0 busy):=by
  refine hC2.swap (by rw[a2,b2]) (by rw[a1,b1,hwbs]) (by rw[a3,b3]) ?_ (by rw[a2]; exact hLl) hr2 World.putObj_size (fun b hb=>World.putObj_heap_other hb);have hk:=hC2.kept;rw[a1,a3] at hk;rw[b1,b3,hwbs];refine⟨by rw[hwb]; exact hk.os,by rw[hwb]; exact hk.tape,by rw[hwb]; exact hk.output,by rw[hwbs,World.putObj_size]; exact hk.size,fun b hb hn=>?_⟩;by_cases e:b=l0
  ·subst e;rw[hwb,World.putObj_heap_same hl2,World.putObj_heap_same hl0s]
  ·rw[hwb,World.putObj_heap_other e,World.putObj_heap_other e];exact hk.block b hb hn
 show Code.wpIn (rK l0) m P body _ a2' (w2.putObj l0 (.loop { state:=.busy,pending:=none,fn:=fn,tmps:=tm,params:=#[p0],assign:=assign,body:=body,defers:=D }));rw[<- hbusy];refine wpIn_mono ((hbody cxB).run a2' _ ⟨ρ2,hC2'⟩) ?_;rintro e a3' w3 ⟨l3,⟨ρ3,hC3⟩,rfl,hlk,hbo,hnp⟩;have hr3:w3.heap[l0]?=some busy:=by
  have:=hC3.kept.block l0 (by rw[b1,hwbs]; exact hl0s) (by rw[b3]; exact hBl);rw[this,b1,hwb]; exact World.putObj_heap_same hl0s
 have hl3:l0<w3.heap.size:=(Array.getElem?_eq_some_iff.1 hr3).1;rw[hbusy] at hr3;refine⟨_,_,run_endRound none hr3,.bool true,?_⟩;obtain⟨w4,hw4⟩:∃ w4,w4=w3.putObj l0 (.loop { state:=.ready,pending:=none,fn:=fn,tmps:=tm,params:=#[p0],assign:=assign,body:=body,defers:=D }):=⟨_,rfl⟩
 have hC4:Conc cxA n ρ3 (aF .no l3) a3' w4:=by
  refine hC3.swap (by rw[a2,b2]) (by rw[a1,b1,hwbs]) (by rw[a3,b3]) ?_ (by rw[b2]; exact hLl) hr3 (by rw[hw4]; exact World.putObj_size) (fun b hb=>by rw[hw4]; exact World.putObj_heap_other hb);have hk:=hC3.kept;rw[b1,b3,hwbs] at hk;rw[a1,a3];refine⟨by rw[hw4]; exact hk.os.trans (by rw[hwb]; rfl),by rw[hw4]; exact hk.tape.trans (by rw[hwb]; rfl),by rw[hw4]; exact hk.output.trans (by rw[hwb]; rfl),by rw[hw4,World.putObj_size,<- hwbs]; exact hk.size,fun b hb hn=>?_⟩;by_cases e:b=l0
  ·subst e;rw[hw4,World.putObj_heap_same hl3];exact hrec.symm
  ·rw[hw4,World.putObj_heap_other e,hk.block b hb hn,hwb,World.putObj_heap_other e]
 obtain⟨ρ',q1,q2,q3,q4,q5⟩:=bAn (r:=.one (.v (.bool true))) a1 a2 (by rw[a3,hBw]) hC4 hlk hbo hnp ho2 hkE;refine⟨ρ',rfl,q1,?_,rfl,?_,q4,q5⟩
 ·rw[hw4] at q2; exact q2
 ·rw[hw4] at q3; exact q3
end
end Vc
end Go.Proofs.YtbaihklbefhgdaaGreat

namespace Go.Proofs.YtbaihklbefhgdaaGreat
open Go.RowKit
open Go.Lib (hid)
open Dg Zn
namespace Vc
set_option linter.unusedSectionVars false
theorem dS.same {L L':Nat->Prop} {ρ:aR} {w w':World} {pl:Bool}:∀ {bl:Sg Dm},dS L ρ w pl bl->Goes L w L' w'->(∀ (b:Nat) (o:Obj),w.heap[b]?=some o->(∃ cs T fr,o=Obj.cells cs T fr)->w'.heap[b]?=some o)->dS L' ρ w' pl bl
 | [],_,_,_=>trivial
 | (.b i,.blk T ch)::r,⟨⟨h1,cs,h2,h3⟩,h4⟩,g,hb=>⟨⟨h1,cs,hb _ _ h2 ⟨_,_,_,rfl⟩,h3.go g fun _ _=>rfl⟩,h4.same g hb⟩
 | (.b i,.row T k l)::r,⟨h1,h4⟩,g,hb=>⟨h1.go g rfl (fun hc=>by
   obtain⟨cs,sp,⟨fr,e,_⟩,_⟩:=h1.2 hc;rw[hb _ _ e ⟨_,_,_,rfl⟩,e]) fun q=>q,h4.same g hb⟩
 | (.b i,.dead)::r,h,g,hb=>dS.same (bl:=r) h g hb
 | (.b i,.no)::r,h,_,_=>h.elim
 | (.b i,.av x)::r,h,_,_=>h.elim
 | (.b i,.np l)::r,h,_,_=>h.elim
 | (.s t,x)::r,h,_,_=>by cases x<;>exact h.elim
section
variable {P:Program} {cx:Cx Dm} {n:Nat} {σ:St Dm}
theorem aU5 {a:Act} {t:Nat}:a.put (some t) (a.tmps.getD t undef)=a:=by
 cases a with
 | mk tmps defers =>
  simp only[Act.put];congr 1;apply Array.ext (by simp);intro i h1 h2;rw[Array.getElem_setIfInBounds];split
  ·rename_i h3; subst h3; rw[Array.getD_eq_getD_getElem?,Array.getElem?_eq_getElem h2]; rfl
  ·rfl
theorem aU0 {ρ:aR} {a:Act} {w:World} (h:Conc cx n ρ σ a w) (hfr:cx.fr=false) (hKP:bR (σ KP)=[]) {tg p0 m:Nat} {assign body:Code} {f:FuncId} {fnc:Func} {caps:List (SA Dm)} {bl bl':Sg Dm} {nw:List Nat} {Y:Nat->Loop->aR->(Nat->Prop)->World->Prop} {Q:Exit->Act->World->Prop} (hp0:p0<n)
  (hg : σ (.s tg) = .av (.one (.d (.gen (rM f caps))))) (hf : P.funcs[f]? = some fnc) (hname : (fnc.name == "runtime.NumGoroutine") = false) (hb : fnc.body.isSome = true) (hY : yK P f caps bl bl' nw Y)
  (hYs:∀ (fn l0:Nat) (L1:Nat->Prop) (w1:World),Goes (aT cx σ ρ) w L1 w1->L1 l0->Y l0 { state:=.ready,pending:=none,fn:=fn,tmps:=a.tmps,params:=#[p0],assign:=assign,body:=body,defers:=w.heap.size } ρ L1 w1)
  (hbl:kP σ bl) (hnw:lW σ nw) (hkE:kE bl (.tup []) bl' nw=true) (hkE2:kE bl (.one (.v undef)) bl' nw=true) (ho1:fI bl=true) (ho2:fI bl'=true)
  (hK:∀ W,CC cx n (upd σ ((.s p0,.av (.one (.v (a.tmps.getD p0 undef))))::bl')) a W->W.heap[w.heap.size]?=some (.deferred (some []))->Q .normal { a with defers:={ target:=.collected w.heap.size,args:=#[] }::a.defers } W) :
  (Code.rangeFunc (.tmp tg) #[p0] assign body).wpIn Fence.wide m P Q a w:=by
 obtain ⟨c, hc⟩ := Option.isSome_iff_exists.1 hb;have hname' : fnc.name ≠ "runtime.NumGoroutine" := by simpa using hname
 have hs:=h.slt tg _ hg;obtain⟨vs,hv,hat⟩:=hs w (Agree.refl _ _);have e1:a.eval (.tmp tg)=.func (.func f) #[] vs.toArray:=hv;have hcaps:dR (aT cx σ ρ) ρ w caps vs:=aEn fun w' hag=>by
  obtain⟨vs',hv',hat'⟩:=hs w' hag;rw[show a.tmps.getD tg undef=_ from hv] at hv';injection hv' with q1 q2 q3;have:vs=vs':=by simpa using congrArg Array.toList q3
  rw[this]; exact hat'
 refine wpIn_rangeFunc ?_;intro fn hfn;obtain⟨rec,hrec⟩:∃ rec:Loop,rec={ state:=.ready,pending:=none,fn:=fn,tmps:=a.tmps,params:=#[p0],assign:=assign,body:=body,defers:=w.heap.size }:=⟨_,rfl⟩
 obtain⟨W1,hW1⟩:∃ W1,(w.alloc (.deferred (some []))).alloc (.loop rec)=W1:=⟨_,rfl⟩
 have hs1:W1.heap.size=w.heap.size+1+1:=by rw[<- hW1]; exact(Array.size_push _).trans (congrArg (·+1) (Array.size_push _))
 have hL1:W1.heap[w.heap.size+1]?=some (.loop rec):=by
  rw[<- hW1]; have:=World.alloc_heap_new (w.alloc (.deferred (some []))) (.loop rec); rwa[World.size_alloc] at this
 have hD1:W1.heap[w.heap.size]?=some (.deferred (some [])):=by
  rw[<- hW1]; exact(Below.heap_alloc _ _ _ (by simp)).trans (World.alloc_heap_new w _)
 have hb1:Below w.heap.size w W1:=by
  rw[<- hW1]; exact(((Below.refl _ w).alloc (Nat.le_refl _) _).alloc (by simp) _)
 obtain⟨L',hL'⟩:∃ L':Nat->Prop,L'=fun b=>aT cx σ ρ b\/b=w.heap.size+1:=⟨_,rfl⟩
 have hlt:=h.lofLt;have g1:Goes (aT cx σ ρ) w L' W1:=by
  intro w'' hw;refine⟨Nat.le_trans hb1.size hw.1,fun b hbs hn=>?_⟩;refine(hw.2 b (Nat.lt_of_lt_of_le hbs hb1.size) ?_).trans (hb1.block b hbs);rw[hL'];rintro(q | q)
  ·exact hn q
  ·omega
 have hni:gO L' W1:=by
  intro b hbL;rw[hL'] at hbL;rcases hbL with q | rfl
  ·exact aHf (h.noInt hfr hKP) hlt hb1 b q
  ·intro cs T fr hc2;rw[hL1] at hc2; cases hc2
 refine⟨w.heap.size+1,[{ target:=.collected w.heap.size,args:=#[] }],W1,{ target:=.fn (.func f) vs.toArray,args:=#[fO (w.heap.size+1)] },W1,f,#[fO (w.heap.size+1)]++vs.toArray,W1,?_,?_,fun _ _=>trivial,?_,fun q=>(by cases q),?_⟩
 ·rw[<- hW1,hrec]; exact run_enterLoop_outer _ _ _ _ _
 ·simp only[resolve,e1];simp[go_sem]
 ·simp[invoke,callFunc,hf,hname',hc]
 obtain⟨y0,hy0⟩:∃ y0,y0=a.tmps.getD p0 undef:=⟨_,rfl⟩
 obtain⟨ex,hex⟩:∃ ex:Obj,ex=.loop { rec with state:=.exhausted }:=⟨_,rfl⟩
 refine callsIn_wide.2 ?_;have hrl:W1.heap[w.heap.size+1]?=some (.loop rec):=hL1;refine aCn (cx:=cx) (n:=n) (d:=p0) (Goal:=Calls P f (#[fO (w.heap.size+1)]++vs.toArray) W1 (rangePost Fence.wide m P (w.heap.size+1) Q { a with defers:=[{ target:=.collected w.heap.size,args:=#[] }]++a.defers }))
  (run:=fun vs' _ R=>Calls P f (#[fO (w.heap.size+1)]++vs') W1 fun e (W2:World)=>∃ v,e=.returned v/\W2.heap[w.heap.size+1]?=some (Obj.loop rec)/\W2.heap[w.heap.size]?=some (Obj.deferred (some []))/\R (.returned y0) (W2.putObj (w.heap.size+1) ex))
  (K:=fun a' W3=>a'=a->CC cx n (upd σ ((.s p0,.av (.one (.v y0)))::bl')) a W3)
  (r:=.one (.v y0)) (bl:=bl) (bl':=bl') (nw:=nw) (pl:=true) (sas:=caps) (vs:=vs) h ?hcon (cx.wf hfr) ?hrun hcaps hp0 hbl hnw ?hk1 (kU ho1).1 ⟨fun _ i _ q=>(by rw[hKP] at q; cases q),fun q=>(by cases q)⟩ (kU ho2).1 (kU ho1).2 ?hK
 case hk1=>exact hkE2
 case hK=>intro a' W3 hC e; subst e; exact hC
 case hrun =>
  intro R hR hk;refine hR.mono ?_;rintro e W2 ⟨v,rfl,q1,q2,q3⟩;obtain⟨v',e',hKK⟩:=hk _ _ q3;injection e' with e';subst e';have hCC:=hKK (by rw[hy0]; exact aU5);refine⟨none,W2.putObj (w.heap.size+1) ex,?_,?_⟩
  ·have:=run_endLoop (P:=P) q1 (by rw[hrec]; simp);rw[hex,this,hrec]
  ·refine hK _ (by rw[<- hy0]; exact hCC) ?_;rw[World.putObj_heap_other (by omega)];exact q2
 case hcon =>
  intro hlt' hW hall hbk hLb hinj;have hLL:∀ b,aT cx σ ρ b->L' b:=fun b hb=>by rw[hL']; exact .inl hb
  have hbk1:dS L' ρ W1 true bl:=hbk.same g1 fun b o hb _=>(hb1.block b (Array.getElem?_eq_some_iff.1 hb).1).trans hb;have hcall:=hY (w.heap.size+1) rec L' ρ W1 (fO (w.heap.size+1)::vs) hL1 (by rw[hL']; exact .inr rfl) hni (by rw[hrec]; exact hYs fn _ L' W1 g1 (by rw[hL']; exact .inr rfl))
   (fun b hb=>by
    rw[hL'] at hb;rcases hb with q | rfl
    ·have:=hlt b q; omega
    ·omega)
   (fun w' hk=>hW w' ⟨hk.os.trans hb1.os,hk.tape.trans hb1.tape,hk.output.trans hb1.output,Nat.le_trans hb1.size hk.size,fun b hb hn=>(hk.block b (Nat.lt_of_lt_of_le hb hb1.size) hn).trans (hb1.block b hb)⟩)
   ⟨rfl,hcaps.go g1 fun _ _=>rfl⟩ hbk1 (fun i hi=>hLL _ (hLb i hi)) hinj
  refine Calls.mono (show Calls P f (#[fO (w.heap.size+1)]++vs.toArray) W1 _ from (show (#[fO (w.heap.size+1)]++vs.toArray:Array Value)=(fO (w.heap.size+1)::vs).toArray from Array.ext' (by simp)) ▸ hcall) ?_;rintro e W2 ⟨v,ρ',rfl,k1,k2,_,k4,k5,k6⟩;have hnl:∀ b o,W1.heap[b]?=some o->(∀ cs T fr,o≠Obj.cells cs T fr)->¬ ∃ i,live (aF .no bl) ρ i/\(ρ i).1=b:=by
   rintro b o hb hno ⟨i,hi,e⟩;rcases gH hi with ⟨T,ch,q⟩ | ⟨T,k,l,q,hc⟩
   ·obtain⟨_,cs,e2,_⟩:=hbk1.blk q;rw[e,hb] at e2;exact hno _ _ _ (Option.some.inj e2)
   ·obtain⟨cs,sp,⟨_,e2,_⟩,_⟩:=(hbk1.row q).2 hc;rw[e,hb] at e2;exact hno _ _ _ (Option.some.inj e2)
  have q1:W2.heap[w.heap.size+1]?=some (Obj.loop rec):=(k2.block _ (by omega) (hnl _ _ hL1 (fun _ _ _ q=>by cases q))).trans hL1;have q2:W2.heap[w.heap.size]?=some (Obj.deferred (some [])):=(k2.block _ (by omega) (hnl _ _ hD1 (fun _ _ _ q=>by cases q))).trans hD1;refine⟨v,rfl,q1,q2,y0,ρ',rfl,k1,?_,rfl,?_,?_,k6⟩
  ·refine⟨k2.os.trans hb1.os,k2.tape.trans hb1.tape,k2.output.trans hb1.output,by rw[World.putObj_size]; exact Nat.le_trans hb1.size k2.size,fun b hb hn=>?_⟩;rw[World.putObj_heap_other (by omega)];exact(k2.block b (by omega) hn).trans (hb1.block b hb)
  ·refine k4.same ?_ ?_
   ·intro w'' hw;refine⟨by rw[<- World.putObj_size (w:=W2) (r:=w.heap.size+1) (o:=ex)]; exact hw.1,fun b hbs hn=>?_⟩;have hb0:b≠w.heap.size+1:=fun e=>hn (.inl (by rw[hL']; exact .inr e));refine(hw.2 b (by rw[World.putObj_size]; exact hbs) ?_).trans (World.putObj_heap_other hb0);rintro(q | q)
    ·exact hn (.inl (hLL b q))
    ·exact hn (.inr q)
   ·rintro b o hb ⟨cs,T,fr,rfl⟩;rw[World.putObj_heap_other (fun e=>by rw[e,q1] at hb; cases hb)];exact hb
  ·intro i hi;rcases k5 i hi with q | q
   ·exact .inl (by omega)
   ·exact .inr q
end
end Vc
end Go.Proofs.YtbaihklbefhgdaaGreat

namespace Go.Proofs.YtbaihklbefhgdaaGreat
open Go.RowKit
open Go.Lib (hid)
open Dg Zn
namespace Vc
set_option linter.unusedSectionVars false
section
variable {P:Program} {cx:Cx Dm} {n:Nat}
def mB (P:Program) (cx:Cx Dm) (n:Nat) (c:Code) (l:Sg Dm) (Q:Exit->Act->World->Prop):Prop:=∀ a w,CC cx n (aF .no l) a w->c.wp P Q a w
theorem mB.seq {x y:Code} {l:Sg Dm} {Q:Exit->Act->World->Prop} (h:CV P cx n x l (fun e l'=>e=.normal/\mB P cx n y l' Q)):mB P cx n (.seq x y) l Q:=by
 intro a w hC;refine wp_seq (wp_mono (h.run a w hC) ?_);rintro e a' w' ⟨l',h1,rfl,h3⟩;exact h3 a' w' h1
theorem aWz {x y z:Code} {l:Sg Dm} {Q:Exit->Act->World->Prop} (h:CV P cx n x l (fun e l'=>e=.normal/\mB P cx n y l' (Exit.then (z.wp P Q) Q))):mB P cx n (.seq (.seq x y) z) l Q:=by
 intro a w hC;refine wp_seq (wp_seq (wp_mono (h.run a w hC) ?_));rintro e a' w' ⟨l',h1,rfl,h3⟩;exact h3 a' w' h1
theorem aUe {c:Code} {K:Exit->Sg Dm->Prop} {l0:Sg Dm} (i r:Nat) (T0 T:TypeId) (k:Option Nat) (hi:aF .no l0 (.b i)=.blk T0 [(none,.v (.slice none 0 0))]) (hr:aF .no l0 (.b r)=.no) (hne:Nat.beq i r=false) (hrK:Nat.beq r 1000000=false) (hiK:Nat.beq i 1000000=false)
  (h:CV P cx n c ((.b i,.blk T0 [(none,.sl r 0)])::(.b r,.row T k [])::l0) K):CV P cx n c l0 K:=by
 refine⟨fun a w ⟨ρ,hC⟩=>h.run a w ?_⟩;have hne':i≠r:=fun e=>by subst e; rw[show Nat.beq i i=true from Nat.beq_refl i] at hne; cases hne
 have hrK1:r≠1000000:=fun e=>by subst e; cases hrK
 have hiK1:i≠1000000:=fun e=>by subst e; cases hiK
 obtain⟨ρ',hρ⟩:∃ ρ':aR,ρ'=fun j=>if j=r then (w.heap.size,0) else ρ j:=⟨_,rfl⟩
 have hρr:ρ' r=(w.heap.size,0):=by rw[hρ]; simp
 have hρo:∀ j,j≠r->ρ' j=ρ j:=fun j hj=>by rw[hρ]; simp[hj]
 obtain⟨σ,hσ⟩:∃ σ,σ=aF .no l0:=⟨_,rfl⟩
 rw[<- hσ] at hi hr hC;obtain⟨σ',hσ'⟩:∃ σ',σ'=aF .no ((.b i,.blk T0 [(none,(SA.sl r 0:SA Dm))])::(.b r,.row T k [])::l0):=⟨_,rfl⟩
 have ki:σ' (.b i)=.blk T0 [(none,.sl r 0)]:=by rw[hσ']; show (bif Key.beq (.b i) (.b i) then _ else _)=_; rw[iE]; rfl
 have kr:σ' (.b r)=.row T k []:=by
  rw[hσ'];show (bif Key.beq (.b i) (.b r) then _ else bif Key.beq (.b r) (.b r) then _ else _)=_;rw[iG (by simpa using hne'),cond_false,iE]; rfl
 have ko:∀ q,q≠.b i->q≠.b r->σ' q=σ q:=by
  intro q h1 h2;rw[hσ',hσ];show (bif Key.beq (.b i) q then _ else bif Key.beq (.b r) q then _ else aF .no l0 q)=_;rw[iG (fun e=>h1 e.symm),iG (fun e=>h2 e.symm)]; rfl
 have hKP:σ' KP=σ KP:=ko _ (by simp[KP]; omega) (by simp[KP]; omega);have hnr:¬ live σ' ρ' r:=by
  intro hl;have:=(jI kr).1 hl;rw[hρr] at this;exact absurd this (Nat.lt_irrefl 0)
 have hlive:∀ j,live σ' ρ' j->live σ ρ j/\j≠r:=by
  intro j hj;have e:j≠r:=fun e=>hnr (e ▸ hj);by_cases e2:j=i
  ·subst e2; exact⟨jJ hi,e⟩
  ·exact⟨(fY (ko _ (by simpa using e2) (by simpa using e)) (hρo j e)).1 hj,e⟩
 have hLof:∀ b,aT cx σ' ρ' b->aT cx σ ρ b:=by
  rintro b (q | ⟨j,q1,q2⟩)
  ·exact .inl q
  ·obtain⟨q3,q4⟩:=hlive j q1;exact .inr ⟨j,q3,by rw[<- hρo j q4]; exact q2⟩
 refine⟨ρ',?_⟩;rw[<- hσ'];refine hC.step (fun _=>False) (fun q=>q=.b i\/q=.b r) hC.size hC.defers rfl rfl rfl (Nat.le_refl _) (fun _ _ _=>rfl) (fun _ q=>q.elim) (fun q hq=>ko q (fun e=>hq (.inl e)) (fun e=>hq (.inr e))) (fun j hj=>hρo j fun e=>by subst e; exact hj hr) (fun _ _ q=>q.elim) (fun b _ q=>hLof b q) ?_ ?_ ?_ (fun j _ q=>by rw[hKP] at q; exact q) ?_ (fun t av q=>by rcases q with q | q<;>cases q) (fun _ _=>rfl) ?_ ?_
 ·rintro j _ hj;obtain⟨q1,q2⟩:=hlive j hj;rw[hρo j q2];exact hC.mine j q1
 ·rintro j T1 ch (q | q) hj
  ·injection q with q;subst q;rw[ki] at hj;injection hj with e1 e2;subst e1; subst e2;obtain⟨cs,g1,p,r1,v,g2,g3,g4,g5⟩:=hC.blk j T0 _ hi;refine⟨rfl,cs,by rw[hρo j hne']; exact g1,p,r1,v,g2,g3,?_,g5⟩;have hv:v=.slice none 0 0:=g4;exact⟨none,by rw[hv,hρr],fun q=>by rw[hρr] at q; exact absurd q (Nat.lt_irrefl 0)⟩
  ·injection q with q;subst q;rw[kr] at hj; cases hj
 ·rintro j T1 k1 l1 (q | q) hj
  ·injection q with q;subst q;rw[ki] at hj; cases hj
  ·injection q with q;subst q;rw[kr] at hj;injection hj with e1 e2 e3;subst e1; subst e2; subst e3;exact⟨⟨Nat.zero_le _,by rw[hρr]; exact Nat.zero_le _,rfl⟩,fun q=>by rw[hρr] at q; exact absurd q (Nat.lt_irrefl 0)⟩
 ·intro j1 j2 h1 h2 he;obtain⟨q1,q2⟩:=hlive j1 h1;obtain⟨q3,q4⟩:=hlive j2 h2;rw[hρo j1 q2,hρo j2 q4] at he;exact hC.inj j1 j2 q1 q3 he
 ·rintro q b (e | e) hb
  ·subst e;rw[ki] at hb;have:b=r:=by simpa[XV.ptrs,kD,SA.ptrs] using hb
   subst this;rw[kr]; simp
  ·subst e;rw[kr] at hb; cases hb
 ·intro j hj;by_cases e1:j=i
  ·subst e1; rw[ki]; simp
  ·by_cases e2:j=r
   ·subst e2; exact absurd hr hj
   ·rw[ko _ (by simpa using e1) (by simpa using e2)]; exact hj
/-! An activation with aO deferred calls. -/
def Later (ds:List Deferred) (a a':Act):Prop:=a'.tmps=a.tmps/\a'.defers=a.defers++ds
theorem Later.put {ds:List Deferred} {a a':Act} (h:Later ds a a') (d:Option Tmp) (v:Value):Later ds (a.put d v) (a'.put d v):=by
 cases d with
 | none=>exact h
 | some t=>exact⟨by show a'.tmps.setIfInBounds t v=a.tmps.setIfInBounds t v; rw[h.1],h.2⟩
theorem Later.eval {ds:List Deferred} {a a':Act} (h:Later ds a a'):a'.eval=a.eval:=by
 funext x
 cases x<;>simp[Act.eval,h.1]
theorem aVg {ds:List Deferred} {o:Oper} {a a':Act} {w:World} {K:Act->World->Prop} {Q:Exit->Act->World->Prop} (h:o.wp P a w K (fun _ _ _=>False)) (hl:Later ds a a') {K':Act->World->Prop} (hK:∀ b b' w',K b w'->Later ds b b'->K' b' w'):o.wp P a' w K' Q:=by
 unfold Oper.wp at h |-;rw[hl.eval];generalize (execOp a.eval o).run P w=r at h |-;cases r with
 | ok x w' =>
  cases x with
  | value v=>exact hK _ _ _ h (hl.put _ _)
  | skip=>exact hK _ _ _ h (hl.put _ _)
  | defer d=>exact hK _ _ _ h (Later.put (a:={ a with defers:=d::a.defers }) (a':={ a' with defers:=d::a'.defers }) ⟨hl.1,by show d::a'.defers=(d::a.defers)++ds; rw[hl.2]; rfl⟩ _ _)
  | enter f args =>
   refine Calls.mono h ?_;rintro e w2 he;cases e with
   | returned v=>exact hK _ _ _ he (hl.put _ _)
   | panicked c=>exact he.elim
   | outgrown =>
    obtain⟨_,_,q⟩:=he;exact q.elim
  | row s args=>exact Rows.mono h fun v w2 hv=>hK _ _ _ hv (hl.put _ _)
  | _=>exact h.elim
 | halt h0 w'=>cases h0<;>exact h.elim
theorem RV.later {ds:List Deferred} {C:St Dm->Act->World->Prop} {ops:Array Oper} {Q:Exit->Act->World->Prop} {K:Sg Dm->Prop} (hK:∀ l a a' w,K l->C (aF .no l) a w->Later ds a a'->Q .normal a' w) :
  ∀ (rest:List Oper) (done:List (Stp (XV Dm))) (l:Sg Dm) (a a':Act) (w:World),RV .no C P ops false rest done l K->C (aF .no l) a w->Later ds a a'->wpList P ops Q rest a' w
 | [],_,l,a,a',w,h,hC,hl=>hK l a a' w h.2 hC hl
 | o::rest,done,l,a,a',w,⟨st,hs,hr⟩,hC,hl=>by
  refine wpList_step fun K' hK'=>?_;rcases hs _ a w (fun _ _ _=>False) hC (fun _ _=>rfl) (fun _ _=>rfl) with ⟨h1,h2⟩ | ⟨h1,h2⟩
  ·rw[if_pos (by rw[hl.1]; exact h1)];refine aVg (h2 (fun b w'=>C (upd (aF .no l) st.wr) b w') fun _ _ q=>q) hl fun b b' w' hb hl'=>hK' _ _ ?_;rw[fZ] at hb;exact RV.later hK rest _ _ b b' w' hr hb hl'
  ·rw[if_neg (by rw[hl.1,h1]; simp)];rw[fZ] at h2;exact hK' _ _ (RV.later hK rest _ _ _ _ w hr h2 (hl.put _ _))
end
def aGo (m:Nat):rN where
 is:=fun _ v=>∃ a c,v=.slice a m c/\m<=c/\c<=maxLen
 shape:=none
 plain:=true
 ok:=fun w v ⟨a,c,h,_⟩=>by subst h; exact⟨_,rfl,rfl⟩
 pl:=fun _ w v ⟨a,c,h,_⟩=>by subst h; simp[Value.cells,cZ]
section
variable {P:Program} {cx:Cx Dm} {n:Nat} {σ:St Dm} {o:Oper} {d t:Nat}
theorem aXt {ty e:TypeId} {m:Nat} (hu:P.underlying ty=some (.slice e)) (ho:o.op=.call ⟨.builtin .len,#[.tmp t],#[ty]⟩) (hd:o.dst=some d) (hn:d<n) (ht:σ (.s t)=.av (.one (.d (.gen (aGo m))))):aN P cx n σ o [.s t] [(.s d,.av (.one (.v (.int .i64 (m:Int)))))]:=by
 refine fE hd hn rfl fun σ' ρ a w h hk=>⟨_,?_,rfl⟩
 obtain⟨ao,c,hv,_⟩:=(h.slt t _ ((hk (.s t) (by simp)).trans ht)) w (Agree.refl _ _);have e1:a.eval (.tmp t)=.slice ao m c:=hv;simp[execOp,ho,resolve,invoke,e1,builtin,Builtin.len_,run_underlying hu,goInt]
end
end Vc
end Go.Proofs.YtbaihklbefhgdaaGreat
